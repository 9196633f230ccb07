/- Slices of impl.WindState: the helpers of the exact laws. Condition: sizes. -/
import Derived.Test.YtoamhbobcpljpaaGS
namespace Go.Proofs.Ytoamhbobcpljpaa
open Go.RowKit
set_option linter.unusedVariables false
/-- A WindState. -/
structure Wst where
  l : Int
  c : Int
instance : Inhabited Wst := ⟨⟨0, 0⟩⟩
def Wst.enc (x : Wst) : List Value := [.int .i64 x.l, .int .i64 x.c]
def Wst.agg (x : Wst) : Value := .agg #[.int .i64 x.l, .int .i64 x.c]
theorem Wst.enc_len (x : Wst) : x.enc.length = 2 := rfl
/-- Its numbers are in range. -/
def Wst.wf (x : Wst) : Prop := (Lit.int .i64 x.l).wf = true ∧ (Lit.int .i64 x.c).wf = true
theorem Wst.ext {x y : Wst} (h0 : x.l = y.l) (h1 : x.c = y.c) : x = y := by cases x; cases y; simp_all
abbrev wsts (l : List Wst) : List Value := flat Wst.enc l
theorem wsts_len (l : List Wst) : (wsts l).length = l.length * 2 := flat_len Wst.enc_len l
theorem wsts_append (l r : List Wst) : wsts (l ++ r) = wsts l ++ wsts r := flat_append _ l r
theorem wsts_one (x : Wst) : wsts [x] = [.int .i64 x.l, .int .i64 x.c] := by simp [flat, Wst.enc]
theorem wsts_at (l : List Wst) (i : Nat) (hi : i < l.length) : (wsts l)[i * 2]? = some (.int .i64 (gth l i).l) ∧ (wsts l)[i * 2 + 1]? = some (.int .i64 (gth l i).c) :=
  ⟨flat_at Wst.enc_len default l i 0 hi (by decide), flat_at Wst.enc_len default l i 1 hi (by decide)⟩
theorem wsts_take_len (l : List Wst) (j : Nat) (h : j ≤ l.length) : (wsts (l.take j)).length = j * 2 := by rw [wsts_len, List.length_take, Nat.min_eq_left h]
theorem wsts_one_cell (l : List Wst) : ∀ v ∈ wsts l, v.oneCell' = true := by
  intro v hv
  obtain ⟨x, _, hx⟩ := List.mem_flatMap.1 hv
  simp [Wst.enc] at hx
  rcases hx with rfl | rfl <;> rfl
/-- The cells of a row. -/
def WstAt (w : World) (b off : Nat) (l : List Wst) : Prop := ∀ i, i < l.length →
  w.cell? ⟨b, off + i * 2, none⟩ = some (.int .i64 (gth l i).l) ∧ w.cell? ⟨b, off + i * 2 + 1, none⟩ = some (.int .i64 (gth l i).c)
theorem WstAt.below {w w' : World} {b off : Nat} {l : List Wst} {B : Nat} (h : WstAt w b off l) (hb : Below B w w') (hlt : b < B) : WstAt w' b off l := fun i hi =>
  ⟨(hb.cell (p := ⟨b, off + i * 2, none⟩) hlt).trans (h i hi).1, (hb.cell (p := ⟨b, off + i * 2 + 1, none⟩) hlt).trans (h i hi).2⟩
theorem WstAt.drew {w w' : World} {b off : Nat} {l : List Wst} (h : WstAt w b off l) (hd : Drew w w') : WstAt w' b off l := fun i hi =>
  ⟨(hd.cell _).trans (h i hi).1, (hd.cell _).trans (h i hi).2⟩
theorem WstAt.zero {w : World} {b off : Nat} {l : List Wst} (h : WstAt w b off l) (h0 : 0 < l.length) :
    w.cell? ⟨b, off, none⟩ = some (.int .i64 (gth l 0).l) ∧ w.cell? ⟨b, off + 1, none⟩ = some (.int .i64 (gth l 0).c) := by
  have := h 0 h0; simpa using this
theorem Rs.at_Wst {w : World} {v : Value} {l : List Wst} (h : Rs w v l.length (wsts l)) (h0 : l.length ≠ 0) :
    ∃ b off cap, v = .slice (some ⟨b, off, none⟩) l.length cap ∧ b < w.heap.size ∧ l.length ≤ maxLen ∧ WstAt w b off l := by
  obtain ⟨b, off, cap, rfl, hb, hc, hm, hx⟩ := h.pos h0
  refine ⟨b, off, cap, rfl, hb, hm, fun i hi => ?_⟩
  obtain ⟨e0, e1⟩ := wsts_at l i hi
  exact ⟨hx _ _ e0, hx _ _ e1⟩
/-- A row that may be empty: its address is told where there is an element. -/
theorem Rs.form_Wst {w : World} {v : Value} {l : List Wst} (h : Rs w v l.length (wsts l)) :
    ∃ ao b off cap, v = .slice ao l.length cap ∧ (0 < l.length → ao = some ⟨b, off, none⟩ ∧ b < w.heap.size ∧ l.length ≤ maxLen) ∧ WstAt w b off l := by
  by_cases h0 : l.length = 0
  · obtain ⟨a, ca, hv⟩ := h.shape
    exact ⟨a, 0, 0, ca, hv, fun h => by omega, fun i hi => by omega⟩
  · obtain ⟨b, off, cap, hv, hb, hm, hx⟩ := h.at_Wst h0
    exact ⟨_, b, off, cap, hv, fun _ => ⟨rfl, hb, hm⟩, hx⟩
theorem own_Wst {w : World} {B g cap : Nat} {T : TypeId} {l : List Wst} (h : w.ownsRow B T 2 (.slice (some ⟨g, 0, none⟩) l.length cap) l.length (wsts l)) : WstAt w g 0 l := by
  intro i hi
  obtain ⟨e0, e1⟩ := wsts_at l i hi
  simp only [Nat.zero_add]
  exact ⟨(h.cellAt (i * 2) (by omega)).trans e0, (h.cellAt (i * 2 + 1) (by omega)).trans e1⟩
theorem Wst_set (p xs : List Value) (j : Nat) (u0 u1 : Value) (hp : p.length = j * 2) (hx : (j + 1) * 2 ≤ xs.length) :
    (((p ++ xs.drop (j * 2)).set (j * 2) u0).set (j * 2 + 1) u1) = p ++ [u0, u1] ++ xs.drop ((j + 1) * 2) := by
  have h0 : j * 2 < xs.length := by omega
  have h1 : j * 2 + 1 < xs.length := by omega
  rw [List.drop_eq_getElem_cons h0, List.drop_eq_getElem_cons h1]
  rw [List.set_append_right _ _ (by omega), hp, List.set_append_right _ _ (by omega), hp]
  simp only [Nat.sub_self, Nat.add_sub_cancel_left, List.set_cons_zero, List.set_cons_succ, List.append_assoc, List.cons_append, List.nil_append]
  rw [show j * 2 + 1 + 1 = (j + 1) * 2 by omega]
theorem Try.infoWst : (Try.prog.info? 27).map (fun i => (i.zero, i.size, i.bytes)) = some (some (.agg #[.int .i64 0, .int .i64 0]), 2, 16) := by kernel_rfl
theorem box_Wst (w : World) (x : Wst) (t : TypeId) (g : Nat) (hg : g = w.heap.size) (W : World) (h : Below (g + 1) (w.alloc (.cells #[.int .i64 x.l, .int .i64 x.c] t)) W) :
    W.cell? ⟨g, 0, none⟩ = some (.int .i64 x.l) ∧ W.cell? ⟨g, 1, none⟩ = some (.int .i64 x.c) := by
  subst hg
  refine ⟨?_, ?_⟩ <;> (rw [h.cell (by simp), World.cell?_alloc_at _ _ _ _ rfl]; rfl)
set_option maxHeartbeats 400000 in
theorem toWindState_any (x : Wst) (w : World) :
    Calls Try.prog 47 #[.agg #[.int .i64 x.l, .int .i64 x.c]] w fun e w' => e = .returned (.agg #[.int .i64 x.l, .int .i64 x.c]) ∧ Below w.heap.size w w' := by
  go_enter Try.func47, Try.ntmps47
  go_wp2
  refine bodyPost_ret (v := .agg #[.int .i64 x.l, .int .i64 x.c]) (by simp [results, Try.results47, go_sem]) rfl ⟨rfl, ?_⟩
  first | exact (((Below.refl _ _).alloc (Nat.le_refl _) _).alloc (by simp) _).alloc (by simp; omega) _ | exact ((Below.refl _ _).alloc (Nat.le_refl _) _).alloc (by simp) _
set_option maxHeartbeats 400000 in
theorem eqWindState_same (x : Wst) (w : World) :
    Calls Try.prog 48 #[.agg #[.int .i64 x.l, .int .i64 x.c], .agg #[.int .i64 x.l, .int .i64 x.c]] w fun e w' => e = .returned (.bool true) ∧ Below w.heap.size w w' := by
  go_enter Try.func48, Try.ntmps48
  go_wp2
  go_ret
  exact ⟨rfl, ((Below.refl _ _).alloc (Nat.le_refl _) _).alloc (by simp) _⟩
end Go.Proofs.Ytoamhbobcpljpaa
