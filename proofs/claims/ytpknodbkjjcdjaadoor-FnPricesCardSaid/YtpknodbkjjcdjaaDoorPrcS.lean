/- Slices of impl.Prices: the helpers of the exact laws. Condition: sizes. -/
import Derived.Test.YtpknodbkjjcdjaaDoorGS
namespace Go.Proofs.YtpknodbkjjcdjaaDoor
open Go.RowKit
set_option linter.unusedVariables false
/-- A Prices. -/
structure Prc where
  a : Int
  b : Int
  c : Int
  d : Int
instance : Inhabited Prc := ⟨⟨0, 0, 0, 0⟩⟩
def Prc.enc (x : Prc) : List Value := [.int .i64 x.a, .int .i64 x.b, .int .i64 x.c, .int .i64 x.d]
def Prc.agg (x : Prc) : Value := .agg #[.int .i64 x.a, .int .i64 x.b, .int .i64 x.c, .int .i64 x.d]
theorem Prc.enc_len (x : Prc) : x.enc.length = 4 := rfl
/-- Its numbers are in range. -/
def Prc.wf (x : Prc) : Prop := (Lit.int .i64 x.a).wf = true ∧ (Lit.int .i64 x.b).wf = true ∧ (Lit.int .i64 x.c).wf = true ∧ (Lit.int .i64 x.d).wf = true
theorem Prc.ext {x y : Prc} (h0 : x.a = y.a) (h1 : x.b = y.b) (h2 : x.c = y.c) (h3 : x.d = y.d) : x = y := by cases x; cases y; simp_all
abbrev prcs (l : List Prc) : List Value := flat Prc.enc l
theorem prcs_len (l : List Prc) : (prcs l).length = l.length * 4 := flat_len Prc.enc_len l
theorem prcs_append (l r : List Prc) : prcs (l ++ r) = prcs l ++ prcs r := flat_append _ l r
theorem prcs_one (x : Prc) : prcs [x] = [.int .i64 x.a, .int .i64 x.b, .int .i64 x.c, .int .i64 x.d] := by simp [flat, Prc.enc]
theorem prcs_at (l : List Prc) (i : Nat) (hi : i < l.length) : (prcs l)[i * 4]? = some (.int .i64 (gth l i).a) ∧ (prcs l)[i * 4 + 1]? = some (.int .i64 (gth l i).b) ∧ (prcs l)[i * 4 + 2]? = some (.int .i64 (gth l i).c) ∧ (prcs l)[i * 4 + 3]? = some (.int .i64 (gth l i).d) :=
  ⟨flat_at Prc.enc_len default l i 0 hi (by decide), flat_at Prc.enc_len default l i 1 hi (by decide), flat_at Prc.enc_len default l i 2 hi (by decide), flat_at Prc.enc_len default l i 3 hi (by decide)⟩
theorem prcs_take_len (l : List Prc) (j : Nat) (h : j ≤ l.length) : (prcs (l.take j)).length = j * 4 := by rw [prcs_len, List.length_take, Nat.min_eq_left h]
theorem prcs_one_cell (l : List Prc) : ∀ v ∈ prcs l, v.oneCell' = true := by
  intro v hv
  obtain ⟨x, _, hx⟩ := List.mem_flatMap.1 hv
  simp [Prc.enc] at hx
  rcases hx with rfl | rfl | rfl | rfl <;> rfl
/-- The cells of a row. -/
def PrcAt (w : World) (b off : Nat) (l : List Prc) : Prop := ∀ i, i < l.length →
  w.cell? ⟨b, off + i * 4, none⟩ = some (.int .i64 (gth l i).a) ∧ w.cell? ⟨b, off + i * 4 + 1, none⟩ = some (.int .i64 (gth l i).b) ∧ w.cell? ⟨b, off + i * 4 + 2, none⟩ = some (.int .i64 (gth l i).c) ∧ w.cell? ⟨b, off + i * 4 + 3, none⟩ = some (.int .i64 (gth l i).d)
theorem PrcAt.below {w w' : World} {b off : Nat} {l : List Prc} {B : Nat} (h : PrcAt w b off l) (hb : Below B w w') (hlt : b < B) : PrcAt w' b off l := fun i hi =>
  ⟨(hb.cell (p := ⟨b, off + i * 4, none⟩) hlt).trans (h i hi).1, (hb.cell (p := ⟨b, off + i * 4 + 1, none⟩) hlt).trans (h i hi).2.1, (hb.cell (p := ⟨b, off + i * 4 + 2, none⟩) hlt).trans (h i hi).2.2.1, (hb.cell (p := ⟨b, off + i * 4 + 3, none⟩) hlt).trans (h i hi).2.2.2⟩
theorem PrcAt.drew {w w' : World} {b off : Nat} {l : List Prc} (h : PrcAt w b off l) (hd : Drew w w') : PrcAt w' b off l := fun i hi =>
  ⟨(hd.cell _).trans (h i hi).1, (hd.cell _).trans (h i hi).2.1, (hd.cell _).trans (h i hi).2.2.1, (hd.cell _).trans (h i hi).2.2.2⟩
theorem PrcAt.zero {w : World} {b off : Nat} {l : List Prc} (h : PrcAt w b off l) (h0 : 0 < l.length) :
    w.cell? ⟨b, off, none⟩ = some (.int .i64 (gth l 0).a) ∧ w.cell? ⟨b, off + 1, none⟩ = some (.int .i64 (gth l 0).b) ∧ w.cell? ⟨b, off + 2, none⟩ = some (.int .i64 (gth l 0).c) ∧ w.cell? ⟨b, off + 3, none⟩ = some (.int .i64 (gth l 0).d) := by
  have := h 0 h0; simpa using this
theorem Rs.at_Prc {w : World} {v : Value} {l : List Prc} (h : Rs w v l.length (prcs l)) (h0 : l.length ≠ 0) :
    ∃ b off cap, v = .slice (some ⟨b, off, none⟩) l.length cap ∧ b < w.heap.size ∧ l.length ≤ maxLen ∧ PrcAt w b off l := by
  obtain ⟨b, off, cap, rfl, hb, hc, hm, hx⟩ := h.pos h0
  refine ⟨b, off, cap, rfl, hb, hm, fun i hi => ?_⟩
  obtain ⟨e0, e1, e2, e3⟩ := prcs_at l i hi
  exact ⟨hx _ _ e0, hx _ _ e1, hx _ _ e2, hx _ _ e3⟩
/-- A row that may be empty: its address is told where there is an element. -/
theorem Rs.form_Prc {w : World} {v : Value} {l : List Prc} (h : Rs w v l.length (prcs l)) :
    ∃ ao b off cap, v = .slice ao l.length cap ∧ (0 < l.length → ao = some ⟨b, off, none⟩ ∧ b < w.heap.size ∧ l.length ≤ maxLen) ∧ PrcAt w b off l := by
  by_cases h0 : l.length = 0
  · obtain ⟨a, ca, hv⟩ := h.shape
    exact ⟨a, 0, 0, ca, hv, fun h => by omega, fun i hi => by omega⟩
  · obtain ⟨b, off, cap, hv, hb, hm, hx⟩ := h.at_Prc h0
    exact ⟨_, b, off, cap, hv, fun _ => ⟨rfl, hb, hm⟩, hx⟩
theorem own_Prc {w : World} {B g cap : Nat} {T : TypeId} {l : List Prc} (h : w.ownsRow B T 4 (.slice (some ⟨g, 0, none⟩) l.length cap) l.length (prcs l)) : PrcAt w g 0 l := by
  intro i hi
  obtain ⟨e0, e1, e2, e3⟩ := prcs_at l i hi
  simp only [Nat.zero_add]
  exact ⟨(h.cellAt (i * 4) (by omega)).trans e0, (h.cellAt (i * 4 + 1) (by omega)).trans e1, (h.cellAt (i * 4 + 2) (by omega)).trans e2, (h.cellAt (i * 4 + 3) (by omega)).trans e3⟩
theorem Prc_set (p xs : List Value) (j : Nat) (u0 u1 u2 u3 : Value) (hp : p.length = j * 4) (hx : (j + 1) * 4 ≤ xs.length) :
    (((((p ++ xs.drop (j * 4)).set (j * 4) u0).set (j * 4 + 1) u1).set (j * 4 + 2) u2).set (j * 4 + 3) u3) = p ++ [u0, u1, u2, u3] ++ xs.drop ((j + 1) * 4) := by
  have h0 : j * 4 < xs.length := by omega
  have h1 : j * 4 + 1 < xs.length := by omega
  have h2 : j * 4 + 2 < xs.length := by omega
  have h3 : j * 4 + 3 < xs.length := by omega
  rw [List.drop_eq_getElem_cons h0, List.drop_eq_getElem_cons h1, List.drop_eq_getElem_cons h2, List.drop_eq_getElem_cons h3]
  rw [List.set_append_right _ _ (by omega), hp, List.set_append_right _ _ (by omega), hp, List.set_append_right _ _ (by omega), hp, List.set_append_right _ _ (by omega), hp]
  simp only [Nat.sub_self, Nat.add_sub_cancel_left, List.set_cons_zero, List.set_cons_succ, List.append_assoc, List.cons_append, List.nil_append]
  rw [show j * 4 + 3 + 1 = (j + 1) * 4 by omega]
theorem Tryd.infoPrc : (Tryd.prog.info? 52).map (fun i => (i.zero, i.size, i.bytes)) = some (some (.agg #[.int .i64 0, .int .i64 0, .int .i64 0, .int .i64 0]), 4, 32) := by kernel_rfl
theorem box_Prc (w : World) (x : Prc) (t : TypeId) (g : Nat) (hg : g = w.heap.size) (W : World) (h : Below (g + 1) (w.alloc (.cells #[.int .i64 x.a, .int .i64 x.b, .int .i64 x.c, .int .i64 x.d] t)) W) :
    W.cell? ⟨g, 0, none⟩ = some (.int .i64 x.a) ∧ W.cell? ⟨g, 1, none⟩ = some (.int .i64 x.b) ∧ W.cell? ⟨g, 2, none⟩ = some (.int .i64 x.c) ∧ W.cell? ⟨g, 3, none⟩ = some (.int .i64 x.d) := by
  subst hg
  refine ⟨?_, ?_, ?_, ?_⟩ <;> (rw [h.cell (by simp), World.cell?_alloc_at _ _ _ _ rfl]; rfl)
set_option maxHeartbeats 400000 in
theorem toPrices_any (x : Prc) (w : World) :
    Calls Tryd.prog 52 #[.agg #[.int .i64 x.a, .int .i64 x.b, .int .i64 x.c, .int .i64 x.d]] w fun e w' => e = .returned (.agg #[.int .i64 x.a, .int .i64 x.b, .int .i64 x.c, .int .i64 x.d]) ∧ Below w.heap.size w w' := by
  go_enter Tryd.func52, Tryd.ntmps52
  go_wp2
  refine bodyPost_ret (v := .agg #[.int .i64 x.a, .int .i64 x.b, .int .i64 x.c, .int .i64 x.d]) (by simp [results, Tryd.results52, go_sem]) rfl ⟨rfl, ?_⟩
  first | exact (((Below.refl _ _).alloc (Nat.le_refl _) _).alloc (by simp) _).alloc (by simp; omega) _ | exact ((Below.refl _ _).alloc (Nat.le_refl _) _).alloc (by simp) _
end Go.Proofs.YtpknodbkjjcdjaaDoor
