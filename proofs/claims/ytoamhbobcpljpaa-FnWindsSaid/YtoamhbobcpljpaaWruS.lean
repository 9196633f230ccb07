/- Slices of impl.WindRule: the helpers of the exact laws. Condition: sizes. -/
import Derived.Test.YtoamhbobcpljpaaGS
namespace Go.Proofs.Ytoamhbobcpljpaa
open Go.RowKit
set_option linter.unusedVariables false
/-- A WindRule. -/
structure Wru where
  a : Int
  b : Int
  c : Int
  d : Int
instance : Inhabited Wru := ⟨⟨0, 0, 0, 0⟩⟩
def Wru.enc (x : Wru) : List Value := [.int .i64 x.a, .int .i64 x.b, .int .i64 x.c, .int .i64 x.d]
def Wru.agg (x : Wru) : Value := .agg #[.int .i64 x.a, .int .i64 x.b, .int .i64 x.c, .int .i64 x.d]
theorem Wru.enc_len (x : Wru) : x.enc.length = 4 := rfl
/-- Its numbers are in range. -/
def Wru.wf (x : Wru) : Prop := (Lit.int .i64 x.a).wf = true ∧ (Lit.int .i64 x.b).wf = true ∧ (Lit.int .i64 x.c).wf = true ∧ (Lit.int .i64 x.d).wf = true
theorem Wru.ext {x y : Wru} (h0 : x.a = y.a) (h1 : x.b = y.b) (h2 : x.c = y.c) (h3 : x.d = y.d) : x = y := by cases x; cases y; simp_all
abbrev wrus (l : List Wru) : List Value := flat Wru.enc l
theorem wrus_len (l : List Wru) : (wrus l).length = l.length * 4 := flat_len Wru.enc_len l
theorem wrus_append (l r : List Wru) : wrus (l ++ r) = wrus l ++ wrus r := flat_append _ l r
theorem wrus_one (x : Wru) : wrus [x] = [.int .i64 x.a, .int .i64 x.b, .int .i64 x.c, .int .i64 x.d] := by simp [flat, Wru.enc]
theorem wrus_at (l : List Wru) (i : Nat) (hi : i < l.length) : (wrus l)[i * 4]? = some (.int .i64 (gth l i).a) ∧ (wrus l)[i * 4 + 1]? = some (.int .i64 (gth l i).b) ∧ (wrus l)[i * 4 + 2]? = some (.int .i64 (gth l i).c) ∧ (wrus l)[i * 4 + 3]? = some (.int .i64 (gth l i).d) :=
  ⟨flat_at Wru.enc_len default l i 0 hi (by decide), flat_at Wru.enc_len default l i 1 hi (by decide), flat_at Wru.enc_len default l i 2 hi (by decide), flat_at Wru.enc_len default l i 3 hi (by decide)⟩
theorem wrus_take_len (l : List Wru) (j : Nat) (h : j ≤ l.length) : (wrus (l.take j)).length = j * 4 := by rw [wrus_len, List.length_take, Nat.min_eq_left h]
theorem wrus_one_cell (l : List Wru) : ∀ v ∈ wrus l, v.oneCell' = true := by
  intro v hv
  obtain ⟨x, _, hx⟩ := List.mem_flatMap.1 hv
  simp [Wru.enc] at hx
  rcases hx with rfl | rfl | rfl | rfl <;> rfl
/-- The cells of a row. -/
def WruAt (w : World) (b off : Nat) (l : List Wru) : Prop := ∀ i, i < l.length →
  w.cell? ⟨b, off + i * 4, none⟩ = some (.int .i64 (gth l i).a) ∧ w.cell? ⟨b, off + i * 4 + 1, none⟩ = some (.int .i64 (gth l i).b) ∧ w.cell? ⟨b, off + i * 4 + 2, none⟩ = some (.int .i64 (gth l i).c) ∧ w.cell? ⟨b, off + i * 4 + 3, none⟩ = some (.int .i64 (gth l i).d)
theorem WruAt.below {w w' : World} {b off : Nat} {l : List Wru} {B : Nat} (h : WruAt w b off l) (hb : Below B w w') (hlt : b < B) : WruAt w' b off l := fun i hi =>
  ⟨(hb.cell (p := ⟨b, off + i * 4, none⟩) hlt).trans (h i hi).1, (hb.cell (p := ⟨b, off + i * 4 + 1, none⟩) hlt).trans (h i hi).2.1, (hb.cell (p := ⟨b, off + i * 4 + 2, none⟩) hlt).trans (h i hi).2.2.1, (hb.cell (p := ⟨b, off + i * 4 + 3, none⟩) hlt).trans (h i hi).2.2.2⟩
theorem WruAt.drew {w w' : World} {b off : Nat} {l : List Wru} (h : WruAt w b off l) (hd : Drew w w') : WruAt w' b off l := fun i hi =>
  ⟨(hd.cell _).trans (h i hi).1, (hd.cell _).trans (h i hi).2.1, (hd.cell _).trans (h i hi).2.2.1, (hd.cell _).trans (h i hi).2.2.2⟩
theorem WruAt.zero {w : World} {b off : Nat} {l : List Wru} (h : WruAt w b off l) (h0 : 0 < l.length) :
    w.cell? ⟨b, off, none⟩ = some (.int .i64 (gth l 0).a) ∧ w.cell? ⟨b, off + 1, none⟩ = some (.int .i64 (gth l 0).b) ∧ w.cell? ⟨b, off + 2, none⟩ = some (.int .i64 (gth l 0).c) ∧ w.cell? ⟨b, off + 3, none⟩ = some (.int .i64 (gth l 0).d) := by
  have := h 0 h0; simpa using this
theorem Rs.at_Wru {w : World} {v : Value} {l : List Wru} (h : Rs w v l.length (wrus l)) (h0 : l.length ≠ 0) :
    ∃ b off cap, v = .slice (some ⟨b, off, none⟩) l.length cap ∧ b < w.heap.size ∧ l.length ≤ maxLen ∧ WruAt w b off l := by
  obtain ⟨b, off, cap, rfl, hb, hc, hm, hx⟩ := h.pos h0
  refine ⟨b, off, cap, rfl, hb, hm, fun i hi => ?_⟩
  obtain ⟨e0, e1, e2, e3⟩ := wrus_at l i hi
  exact ⟨hx _ _ e0, hx _ _ e1, hx _ _ e2, hx _ _ e3⟩
/-- A row that may be empty: its address is told where there is an element. -/
theorem Rs.form_Wru {w : World} {v : Value} {l : List Wru} (h : Rs w v l.length (wrus l)) :
    ∃ ao b off cap, v = .slice ao l.length cap ∧ (0 < l.length → ao = some ⟨b, off, none⟩ ∧ b < w.heap.size ∧ l.length ≤ maxLen) ∧ WruAt w b off l := by
  by_cases h0 : l.length = 0
  · obtain ⟨a, ca, hv⟩ := h.shape
    exact ⟨a, 0, 0, ca, hv, fun h => by omega, fun i hi => by omega⟩
  · obtain ⟨b, off, cap, hv, hb, hm, hx⟩ := h.at_Wru h0
    exact ⟨_, b, off, cap, hv, fun _ => ⟨rfl, hb, hm⟩, hx⟩
theorem own_Wru {w : World} {B g cap : Nat} {T : TypeId} {l : List Wru} (h : w.ownsRow B T 4 (.slice (some ⟨g, 0, none⟩) l.length cap) l.length (wrus l)) : WruAt w g 0 l := by
  intro i hi
  obtain ⟨e0, e1, e2, e3⟩ := wrus_at l i hi
  simp only [Nat.zero_add]
  exact ⟨(h.cellAt (i * 4) (by omega)).trans e0, (h.cellAt (i * 4 + 1) (by omega)).trans e1, (h.cellAt (i * 4 + 2) (by omega)).trans e2, (h.cellAt (i * 4 + 3) (by omega)).trans e3⟩
theorem Wru_set (p xs : List Value) (j : Nat) (u0 u1 u2 u3 : Value) (hp : p.length = j * 4) (hx : (j + 1) * 4 ≤ xs.length) :
    (((((p ++ xs.drop (j * 4)).set (j * 4) u0).set (j * 4 + 1) u1).set (j * 4 + 2) u2).set (j * 4 + 3) u3) = p ++ [u0, u1, u2, u3] ++ xs.drop ((j + 1) * 4) := by
  have h0 : j * 4 < xs.length := by omega
  have h1 : j * 4 + 1 < xs.length := by omega
  have h2 : j * 4 + 2 < xs.length := by omega
  have h3 : j * 4 + 3 < xs.length := by omega
  rw [List.drop_eq_getElem_cons h0, List.drop_eq_getElem_cons h1, List.drop_eq_getElem_cons h2, List.drop_eq_getElem_cons h3]
  rw [List.set_append_right _ _ (by omega), hp, List.set_append_right _ _ (by omega), hp, List.set_append_right _ _ (by omega), hp, List.set_append_right _ _ (by omega), hp]
  simp only [Nat.sub_self, Nat.add_sub_cancel_left, List.set_cons_zero, List.set_cons_succ, List.append_assoc, List.cons_append, List.nil_append]
  rw [show j * 4 + 3 + 1 = (j + 1) * 4 by omega]
theorem Try.infoWru : (Try.prog.info? 25).map (fun i => (i.zero, i.size, i.bytes)) = some (some (.agg #[.int .i64 0, .int .i64 0, .int .i64 0, .int .i64 0]), 4, 32) := by kernel_rfl
theorem box_Wru (w : World) (x : Wru) (t : TypeId) (g : Nat) (hg : g = w.heap.size) (W : World) (h : Below (g + 1) (w.alloc (.cells #[.int .i64 x.a, .int .i64 x.b, .int .i64 x.c, .int .i64 x.d] t)) W) :
    W.cell? ⟨g, 0, none⟩ = some (.int .i64 x.a) ∧ W.cell? ⟨g, 1, none⟩ = some (.int .i64 x.b) ∧ W.cell? ⟨g, 2, none⟩ = some (.int .i64 x.c) ∧ W.cell? ⟨g, 3, none⟩ = some (.int .i64 x.d) := by
  subst hg
  refine ⟨?_, ?_, ?_, ?_⟩ <;> (rw [h.cell (by simp), World.cell?_alloc_at _ _ _ _ rfl]; rfl)
set_option maxHeartbeats 400000 in
theorem toWindRule_any (x : Wru) (w : World) :
    Calls Try.prog 46 #[.agg #[.int .i64 x.a, .int .i64 x.b, .int .i64 x.c, .int .i64 x.d]] w fun e w' => e = .returned (.agg #[.int .i64 x.a, .int .i64 x.b, .int .i64 x.c, .int .i64 x.d]) ∧ Below w.heap.size w w' := by
  go_enter Try.func46, Try.ntmps46
  go_wp2
  refine bodyPost_ret (v := .agg #[.int .i64 x.a, .int .i64 x.b, .int .i64 x.c, .int .i64 x.d]) (by simp [results, Try.results46, go_sem]) rfl ⟨rfl, ?_⟩
  first | exact (((Below.refl _ _).alloc (Nat.le_refl _) _).alloc (by simp) _).alloc (by simp; omega) _ | exact ((Below.refl _ _).alloc (Nat.le_refl _) _).alloc (by simp) _
end Go.Proofs.Ytoamhbobcpljpaa
