/- Slices of impl.LoadCase: the helpers of the exact laws. Condition: sizes. -/
import Derived.Test.YtmmjbdffpgohdaaGS
namespace Go.Proofs.Ytmmjbdffpgohdaa
open Go.RowKit
set_option linter.unusedVariables false
/-- A LoadCase. -/
structure LC where
  w : Int
  c : Int
  r : Int
instance : Inhabited LC := ⟨⟨0, 0, 0⟩⟩
def LC.enc (x : LC) : List Value := [.int .i64 x.w, .int .i64 x.c, .int .i64 x.r]
def LC.agg (x : LC) : Value := .agg #[.int .i64 x.w, .int .i64 x.c, .int .i64 x.r]
theorem LC.enc_len (x : LC) : x.enc.length = 3 := rfl
/-- Its numbers are in range. -/
def LC.wf (x : LC) : Prop := (Lit.int .i64 x.w).wf = true ∧ (Lit.int .i64 x.c).wf = true ∧ (Lit.int .i64 x.r).wf = true
theorem LC.ext {x y : LC} (h0 : x.w = y.w) (h1 : x.c = y.c) (h2 : x.r = y.r) : x = y := by cases x; cases y; simp_all
abbrev lcs (l : List LC) : List Value := flat LC.enc l
theorem lcs_len (l : List LC) : (lcs l).length = l.length * 3 := flat_len LC.enc_len l
theorem lcs_append (l r : List LC) : lcs (l ++ r) = lcs l ++ lcs r := flat_append _ l r
theorem lcs_one (x : LC) : lcs [x] = [.int .i64 x.w, .int .i64 x.c, .int .i64 x.r] := by simp [flat, LC.enc]
theorem lcs_at (l : List LC) (i : Nat) (hi : i < l.length) : (lcs l)[i * 3]? = some (.int .i64 (gth l i).w) ∧ (lcs l)[i * 3 + 1]? = some (.int .i64 (gth l i).c) ∧ (lcs l)[i * 3 + 2]? = some (.int .i64 (gth l i).r) :=
  ⟨flat_at LC.enc_len default l i 0 hi (by decide), flat_at LC.enc_len default l i 1 hi (by decide), flat_at LC.enc_len default l i 2 hi (by decide)⟩
theorem lcs_take_len (l : List LC) (j : Nat) (h : j ≤ l.length) : (lcs (l.take j)).length = j * 3 := by rw [lcs_len, List.length_take, Nat.min_eq_left h]
theorem lcs_one_cell (l : List LC) : ∀ v ∈ lcs l, v.oneCell' = true := by
  intro v hv
  obtain ⟨x, _, hx⟩ := List.mem_flatMap.1 hv
  simp [LC.enc] at hx
  rcases hx with rfl | rfl | rfl <;> rfl
/-- The cells of a row. -/
def LCAt (w : World) (b off : Nat) (l : List LC) : Prop := ∀ i, i < l.length →
  w.cell? ⟨b, off + i * 3, none⟩ = some (.int .i64 (gth l i).w) ∧ w.cell? ⟨b, off + i * 3 + 1, none⟩ = some (.int .i64 (gth l i).c) ∧ w.cell? ⟨b, off + i * 3 + 2, none⟩ = some (.int .i64 (gth l i).r)
theorem LCAt.below {w w' : World} {b off : Nat} {l : List LC} {B : Nat} (h : LCAt w b off l) (hb : Below B w w') (hlt : b < B) : LCAt w' b off l := fun i hi =>
  ⟨(hb.cell (p := ⟨b, off + i * 3, none⟩) hlt).trans (h i hi).1, (hb.cell (p := ⟨b, off + i * 3 + 1, none⟩) hlt).trans (h i hi).2.1, (hb.cell (p := ⟨b, off + i * 3 + 2, none⟩) hlt).trans (h i hi).2.2⟩
theorem LCAt.drew {w w' : World} {b off : Nat} {l : List LC} (h : LCAt w b off l) (hd : Drew w w') : LCAt w' b off l := fun i hi =>
  ⟨(hd.cell _).trans (h i hi).1, (hd.cell _).trans (h i hi).2.1, (hd.cell _).trans (h i hi).2.2⟩
theorem LCAt.zero {w : World} {b off : Nat} {l : List LC} (h : LCAt w b off l) (h0 : 0 < l.length) :
    w.cell? ⟨b, off, none⟩ = some (.int .i64 (gth l 0).w) ∧ w.cell? ⟨b, off + 1, none⟩ = some (.int .i64 (gth l 0).c) ∧ w.cell? ⟨b, off + 2, none⟩ = some (.int .i64 (gth l 0).r) := by
  have := h 0 h0; simpa using this
theorem Rs.at_LC {w : World} {v : Value} {l : List LC} (h : Rs w v l.length (lcs l)) (h0 : l.length ≠ 0) :
    ∃ b off cap, v = .slice (some ⟨b, off, none⟩) l.length cap ∧ b < w.heap.size ∧ l.length ≤ maxLen ∧ LCAt w b off l := by
  obtain ⟨b, off, cap, rfl, hb, hc, hm, hx⟩ := h.pos h0
  refine ⟨b, off, cap, rfl, hb, hm, fun i hi => ?_⟩
  obtain ⟨e0, e1, e2⟩ := lcs_at l i hi
  exact ⟨hx _ _ e0, hx _ _ e1, hx _ _ e2⟩
/-- A row that may be empty: its address is told where there is an element. -/
theorem Rs.form_LC {w : World} {v : Value} {l : List LC} (h : Rs w v l.length (lcs l)) :
    ∃ ao b off cap, v = .slice ao l.length cap ∧ (0 < l.length → ao = some ⟨b, off, none⟩ ∧ b < w.heap.size ∧ l.length ≤ maxLen) ∧ LCAt w b off l := by
  by_cases h0 : l.length = 0
  · obtain ⟨a, ca, hv⟩ := h.shape
    exact ⟨a, 0, 0, ca, hv, fun h => by omega, fun i hi => by omega⟩
  · obtain ⟨b, off, cap, hv, hb, hm, hx⟩ := h.at_LC h0
    exact ⟨_, b, off, cap, hv, fun _ => ⟨rfl, hb, hm⟩, hx⟩
theorem own_LC {w : World} {B g cap : Nat} {T : TypeId} {l : List LC} (h : w.ownsRow B T 3 (.slice (some ⟨g, 0, none⟩) l.length cap) l.length (lcs l)) : LCAt w g 0 l := by
  intro i hi
  obtain ⟨e0, e1, e2⟩ := lcs_at l i hi
  simp only [Nat.zero_add]
  exact ⟨(h.cellAt (i * 3) (by omega)).trans e0, (h.cellAt (i * 3 + 1) (by omega)).trans e1, (h.cellAt (i * 3 + 2) (by omega)).trans e2⟩
theorem LC_set (p xs : List Value) (j : Nat) (u0 u1 u2 : Value) (hp : p.length = j * 3) (hx : (j + 1) * 3 ≤ xs.length) :
    ((((p ++ xs.drop (j * 3)).set (j * 3) u0).set (j * 3 + 1) u1).set (j * 3 + 2) u2) = p ++ [u0, u1, u2] ++ xs.drop ((j + 1) * 3) := by
  have h0 : j * 3 < xs.length := by omega
  have h1 : j * 3 + 1 < xs.length := by omega
  have h2 : j * 3 + 2 < xs.length := by omega
  rw [List.drop_eq_getElem_cons h0, List.drop_eq_getElem_cons h1, List.drop_eq_getElem_cons h2]
  rw [List.set_append_right _ _ (by omega), hp, List.set_append_right _ _ (by omega), hp, List.set_append_right _ _ (by omega), hp]
  simp only [Nat.sub_self, Nat.add_sub_cancel_left, List.set_cons_zero, List.set_cons_succ, List.append_assoc, List.cons_append, List.nil_append]
  rw [show j * 3 + 2 + 1 = (j + 1) * 3 by omega]
theorem Try.infoLC : (Try.prog.info? 44).map (fun i => (i.zero, i.size, i.bytes)) = some (some (.agg #[.int .i64 0, .int .i64 0, .int .i64 0]), 3, 24) := by kernel_rfl
theorem box_LC (w : World) (x : LC) (t : TypeId) (g : Nat) (hg : g = w.heap.size) (W : World) (h : Below (g + 1) (w.alloc (.cells #[.int .i64 x.w, .int .i64 x.c, .int .i64 x.r] t)) W) :
    W.cell? ⟨g, 0, none⟩ = some (.int .i64 x.w) ∧ W.cell? ⟨g, 1, none⟩ = some (.int .i64 x.c) ∧ W.cell? ⟨g, 2, none⟩ = some (.int .i64 x.r) := by
  subst hg
  refine ⟨?_, ?_, ?_⟩ <;> (rw [h.cell (by simp), World.cell?_alloc_at _ _ _ _ rfl]; rfl)
end Go.Proofs.Ytmmjbdffpgohdaa
