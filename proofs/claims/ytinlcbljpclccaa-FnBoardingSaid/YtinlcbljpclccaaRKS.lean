/- Slices of impl.RopeKind: the helpers of the exact laws. Condition: sizes. -/
import Derived.Test.YtinlcbljpclccaaGS
namespace Go.Proofs.Ytinlcbljpclccaa
open Go.RowKit
set_option linter.unusedVariables false
/-- A RopeKind. -/
structure RK where
  i : Int
  s : Int
  w : Int
  g : Int
  p : Int
instance : Inhabited RK := ⟨⟨0, 0, 0, 0, 0⟩⟩
def RK.enc (x : RK) : List Value := [.int .i64 x.i, .int .i64 x.s, .int .i64 x.w, .int .i64 x.g, .int .i64 x.p]
def RK.agg (x : RK) : Value := .agg #[.int .i64 x.i, .int .i64 x.s, .int .i64 x.w, .int .i64 x.g, .int .i64 x.p]
theorem RK.enc_len (x : RK) : x.enc.length = 5 := rfl
/-- Its numbers are in range. -/
def RK.wf (x : RK) : Prop := (Lit.int .i64 x.i).wf = true ∧ (Lit.int .i64 x.s).wf = true ∧ (Lit.int .i64 x.w).wf = true ∧ (Lit.int .i64 x.g).wf = true ∧ (Lit.int .i64 x.p).wf = true
theorem RK.ext {x y : RK} (h0 : x.i = y.i) (h1 : x.s = y.s) (h2 : x.w = y.w) (h3 : x.g = y.g) (h4 : x.p = y.p) : x = y := by cases x; cases y; simp_all
abbrev rks (l : List RK) : List Value := flat RK.enc l
theorem rks_len (l : List RK) : (rks l).length = l.length * 5 := flat_len RK.enc_len l
theorem rks_append (l r : List RK) : rks (l ++ r) = rks l ++ rks r := flat_append _ l r
theorem rks_one (x : RK) : rks [x] = [.int .i64 x.i, .int .i64 x.s, .int .i64 x.w, .int .i64 x.g, .int .i64 x.p] := by simp [flat, RK.enc]
theorem rks_at (l : List RK) (i : Nat) (hi : i < l.length) : (rks l)[i * 5]? = some (.int .i64 (gth l i).i) ∧ (rks l)[i * 5 + 1]? = some (.int .i64 (gth l i).s) ∧ (rks l)[i * 5 + 2]? = some (.int .i64 (gth l i).w) ∧ (rks l)[i * 5 + 3]? = some (.int .i64 (gth l i).g) ∧ (rks l)[i * 5 + 4]? = some (.int .i64 (gth l i).p) :=
  ⟨flat_at RK.enc_len default l i 0 hi (by decide), flat_at RK.enc_len default l i 1 hi (by decide), flat_at RK.enc_len default l i 2 hi (by decide), flat_at RK.enc_len default l i 3 hi (by decide), flat_at RK.enc_len default l i 4 hi (by decide)⟩
theorem rks_take_len (l : List RK) (j : Nat) (h : j ≤ l.length) : (rks (l.take j)).length = j * 5 := by rw [rks_len, List.length_take, Nat.min_eq_left h]
theorem rks_one_cell (l : List RK) : ∀ v ∈ rks l, v.oneCell' = true := by
  intro v hv
  obtain ⟨x, _, hx⟩ := List.mem_flatMap.1 hv
  simp [RK.enc] at hx
  rcases hx with rfl | rfl | rfl | rfl | rfl <;> rfl
/-- The cells of a row. -/
def RKAt (w : World) (b off : Nat) (l : List RK) : Prop := ∀ i, i < l.length →
  w.cell? ⟨b, off + i * 5, none⟩ = some (.int .i64 (gth l i).i) ∧ w.cell? ⟨b, off + i * 5 + 1, none⟩ = some (.int .i64 (gth l i).s) ∧ w.cell? ⟨b, off + i * 5 + 2, none⟩ = some (.int .i64 (gth l i).w) ∧ w.cell? ⟨b, off + i * 5 + 3, none⟩ = some (.int .i64 (gth l i).g) ∧ w.cell? ⟨b, off + i * 5 + 4, none⟩ = some (.int .i64 (gth l i).p)
theorem RKAt.below {w w' : World} {b off : Nat} {l : List RK} {B : Nat} (h : RKAt w b off l) (hb : Below B w w') (hlt : b < B) : RKAt w' b off l := fun i hi =>
  ⟨(hb.cell (p := ⟨b, off + i * 5, none⟩) hlt).trans (h i hi).1, (hb.cell (p := ⟨b, off + i * 5 + 1, none⟩) hlt).trans (h i hi).2.1, (hb.cell (p := ⟨b, off + i * 5 + 2, none⟩) hlt).trans (h i hi).2.2.1, (hb.cell (p := ⟨b, off + i * 5 + 3, none⟩) hlt).trans (h i hi).2.2.2.1, (hb.cell (p := ⟨b, off + i * 5 + 4, none⟩) hlt).trans (h i hi).2.2.2.2⟩
theorem RKAt.drew {w w' : World} {b off : Nat} {l : List RK} (h : RKAt w b off l) (hd : Drew w w') : RKAt w' b off l := fun i hi =>
  ⟨(hd.cell _).trans (h i hi).1, (hd.cell _).trans (h i hi).2.1, (hd.cell _).trans (h i hi).2.2.1, (hd.cell _).trans (h i hi).2.2.2.1, (hd.cell _).trans (h i hi).2.2.2.2⟩
theorem RKAt.zero {w : World} {b off : Nat} {l : List RK} (h : RKAt w b off l) (h0 : 0 < l.length) :
    w.cell? ⟨b, off, none⟩ = some (.int .i64 (gth l 0).i) ∧ w.cell? ⟨b, off + 1, none⟩ = some (.int .i64 (gth l 0).s) ∧ w.cell? ⟨b, off + 2, none⟩ = some (.int .i64 (gth l 0).w) ∧ w.cell? ⟨b, off + 3, none⟩ = some (.int .i64 (gth l 0).g) ∧ w.cell? ⟨b, off + 4, none⟩ = some (.int .i64 (gth l 0).p) := by
  have := h 0 h0; simpa using this
theorem Rs.at_RK {w : World} {v : Value} {l : List RK} (h : Rs w v l.length (rks l)) (h0 : l.length ≠ 0) :
    ∃ b off cap, v = .slice (some ⟨b, off, none⟩) l.length cap ∧ b < w.heap.size ∧ l.length ≤ maxLen ∧ RKAt w b off l := by
  obtain ⟨b, off, cap, rfl, hb, hc, hm, hx⟩ := h.pos h0
  refine ⟨b, off, cap, rfl, hb, hm, fun i hi => ?_⟩
  obtain ⟨e0, e1, e2, e3, e4⟩ := rks_at l i hi
  exact ⟨hx _ _ e0, hx _ _ e1, hx _ _ e2, hx _ _ e3, hx _ _ e4⟩
/-- A row that may be empty: its address is told where there is an element. -/
theorem Rs.form_RK {w : World} {v : Value} {l : List RK} (h : Rs w v l.length (rks l)) :
    ∃ ao b off cap, v = .slice ao l.length cap ∧ (0 < l.length → ao = some ⟨b, off, none⟩ ∧ b < w.heap.size ∧ l.length ≤ maxLen) ∧ RKAt w b off l := by
  by_cases h0 : l.length = 0
  · obtain ⟨a, ca, hv⟩ := h.shape
    exact ⟨a, 0, 0, ca, hv, fun h => by omega, fun i hi => by omega⟩
  · obtain ⟨b, off, cap, hv, hb, hm, hx⟩ := h.at_RK h0
    exact ⟨_, b, off, cap, hv, fun _ => ⟨rfl, hb, hm⟩, hx⟩
theorem own_RK {w : World} {B g cap : Nat} {T : TypeId} {l : List RK} (h : w.ownsRow B T 5 (.slice (some ⟨g, 0, none⟩) l.length cap) l.length (rks l)) : RKAt w g 0 l := by
  intro i hi
  obtain ⟨e0, e1, e2, e3, e4⟩ := rks_at l i hi
  simp only [Nat.zero_add]
  exact ⟨(h.cellAt (i * 5) (by omega)).trans e0, (h.cellAt (i * 5 + 1) (by omega)).trans e1, (h.cellAt (i * 5 + 2) (by omega)).trans e2, (h.cellAt (i * 5 + 3) (by omega)).trans e3, (h.cellAt (i * 5 + 4) (by omega)).trans e4⟩
theorem RK_set (p xs : List Value) (j : Nat) (u0 u1 u2 u3 u4 : Value) (hp : p.length = j * 5) (hx : (j + 1) * 5 ≤ xs.length) :
    ((((((p ++ xs.drop (j * 5)).set (j * 5) u0).set (j * 5 + 1) u1).set (j * 5 + 2) u2).set (j * 5 + 3) u3).set (j * 5 + 4) u4) = p ++ [u0, u1, u2, u3, u4] ++ xs.drop ((j + 1) * 5) := by
  have h0 : j * 5 < xs.length := by omega
  have h1 : j * 5 + 1 < xs.length := by omega
  have h2 : j * 5 + 2 < xs.length := by omega
  have h3 : j * 5 + 3 < xs.length := by omega
  have h4 : j * 5 + 4 < xs.length := by omega
  rw [List.drop_eq_getElem_cons h0, List.drop_eq_getElem_cons h1, List.drop_eq_getElem_cons h2, List.drop_eq_getElem_cons h3, List.drop_eq_getElem_cons h4]
  rw [List.set_append_right _ _ (by omega), hp, List.set_append_right _ _ (by omega), hp, List.set_append_right _ _ (by omega), hp, List.set_append_right _ _ (by omega), hp, List.set_append_right _ _ (by omega), hp]
  simp only [Nat.sub_self, Nat.add_sub_cancel_left, List.set_cons_zero, List.set_cons_succ, List.append_assoc, List.cons_append, List.nil_append]
  rw [show j * 5 + 4 + 1 = (j + 1) * 5 by omega]
theorem box_RK (w : World) (x : RK) (t : TypeId) (g : Nat) (hg : g = w.heap.size) (W : World) (h : Below (g + 1) (w.alloc (.cells #[.int .i64 x.i, .int .i64 x.s, .int .i64 x.w, .int .i64 x.g, .int .i64 x.p] t)) W) :
    W.cell? ⟨g, 0, none⟩ = some (.int .i64 x.i) ∧ W.cell? ⟨g, 1, none⟩ = some (.int .i64 x.s) ∧ W.cell? ⟨g, 2, none⟩ = some (.int .i64 x.w) ∧ W.cell? ⟨g, 3, none⟩ = some (.int .i64 x.g) ∧ W.cell? ⟨g, 4, none⟩ = some (.int .i64 x.p) := by
  subst hg
  refine ⟨?_, ?_, ?_, ?_, ?_⟩ <;> (rw [h.cell (by simp), World.cell?_alloc_at _ _ _ _ rfl]; rfl)
end Go.Proofs.Ytinlcbljpclccaa
