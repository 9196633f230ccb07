/- Slices of impl.ratio: the helpers of the exact laws. Condition: sizes. -/
import Derived.Test.YtmmjbdffpgohdaaGS
namespace Go.Proofs.Ytmmjbdffpgohdaa
open Go.RowKit
set_option linter.unusedVariables false
/-- A ratio. -/
structure Rat where
  n : Int
  d : Int
instance : Inhabited Rat := ⟨⟨0, 0⟩⟩
def Rat.enc (x : Rat) : List Value := [.int .i64 x.n, .int .i64 x.d]
def Rat.agg (x : Rat) : Value := .agg #[.int .i64 x.n, .int .i64 x.d]
theorem Rat.enc_len (x : Rat) : x.enc.length = 2 := rfl
/-- Its numbers are in range. -/
def Rat.wf (x : Rat) : Prop := (Lit.int .i64 x.n).wf = true ∧ (Lit.int .i64 x.d).wf = true
theorem Rat.ext {x y : Rat} (h0 : x.n = y.n) (h1 : x.d = y.d) : x = y := by cases x; cases y; simp_all
abbrev rats (l : List Rat) : List Value := flat Rat.enc l
theorem rats_len (l : List Rat) : (rats l).length = l.length * 2 := flat_len Rat.enc_len l
theorem rats_append (l r : List Rat) : rats (l ++ r) = rats l ++ rats r := flat_append _ l r
theorem rats_one (x : Rat) : rats [x] = [.int .i64 x.n, .int .i64 x.d] := by simp [flat, Rat.enc]
theorem rats_at (l : List Rat) (i : Nat) (hi : i < l.length) : (rats l)[i * 2]? = some (.int .i64 (gth l i).n) ∧ (rats l)[i * 2 + 1]? = some (.int .i64 (gth l i).d) :=
  ⟨flat_at Rat.enc_len default l i 0 hi (by decide), flat_at Rat.enc_len default l i 1 hi (by decide)⟩
theorem rats_take_len (l : List Rat) (j : Nat) (h : j ≤ l.length) : (rats (l.take j)).length = j * 2 := by rw [rats_len, List.length_take, Nat.min_eq_left h]
theorem rats_one_cell (l : List Rat) : ∀ v ∈ rats l, v.oneCell' = true := by
  intro v hv
  obtain ⟨x, _, hx⟩ := List.mem_flatMap.1 hv
  simp [Rat.enc] at hx
  rcases hx with rfl | rfl <;> rfl
/-- The cells of a row. -/
def RatAt (w : World) (b off : Nat) (l : List Rat) : Prop := ∀ i, i < l.length →
  w.cell? ⟨b, off + i * 2, none⟩ = some (.int .i64 (gth l i).n) ∧ w.cell? ⟨b, off + i * 2 + 1, none⟩ = some (.int .i64 (gth l i).d)
theorem RatAt.below {w w' : World} {b off : Nat} {l : List Rat} {B : Nat} (h : RatAt w b off l) (hb : Below B w w') (hlt : b < B) : RatAt w' b off l := fun i hi =>
  ⟨(hb.cell (p := ⟨b, off + i * 2, none⟩) hlt).trans (h i hi).1, (hb.cell (p := ⟨b, off + i * 2 + 1, none⟩) hlt).trans (h i hi).2⟩
theorem RatAt.drew {w w' : World} {b off : Nat} {l : List Rat} (h : RatAt w b off l) (hd : Drew w w') : RatAt w' b off l := fun i hi =>
  ⟨(hd.cell _).trans (h i hi).1, (hd.cell _).trans (h i hi).2⟩
theorem RatAt.zero {w : World} {b off : Nat} {l : List Rat} (h : RatAt w b off l) (h0 : 0 < l.length) :
    w.cell? ⟨b, off, none⟩ = some (.int .i64 (gth l 0).n) ∧ w.cell? ⟨b, off + 1, none⟩ = some (.int .i64 (gth l 0).d) := by
  have := h 0 h0; simpa using this
theorem Rs.at_Rat {w : World} {v : Value} {l : List Rat} (h : Rs w v l.length (rats l)) (h0 : l.length ≠ 0) :
    ∃ b off cap, v = .slice (some ⟨b, off, none⟩) l.length cap ∧ b < w.heap.size ∧ l.length ≤ maxLen ∧ RatAt w b off l := by
  obtain ⟨b, off, cap, rfl, hb, hc, hm, hx⟩ := h.pos h0
  refine ⟨b, off, cap, rfl, hb, hm, fun i hi => ?_⟩
  obtain ⟨e0, e1⟩ := rats_at l i hi
  exact ⟨hx _ _ e0, hx _ _ e1⟩
/-- A row that may be empty: its address is told where there is an element. -/
theorem Rs.form_Rat {w : World} {v : Value} {l : List Rat} (h : Rs w v l.length (rats l)) :
    ∃ ao b off cap, v = .slice ao l.length cap ∧ (0 < l.length → ao = some ⟨b, off, none⟩ ∧ b < w.heap.size ∧ l.length ≤ maxLen) ∧ RatAt w b off l := by
  by_cases h0 : l.length = 0
  · obtain ⟨a, ca, hv⟩ := h.shape
    exact ⟨a, 0, 0, ca, hv, fun h => by omega, fun i hi => by omega⟩
  · obtain ⟨b, off, cap, hv, hb, hm, hx⟩ := h.at_Rat h0
    exact ⟨_, b, off, cap, hv, fun _ => ⟨rfl, hb, hm⟩, hx⟩
theorem own_Rat {w : World} {B g cap : Nat} {T : TypeId} {l : List Rat} (h : w.ownsRow B T 2 (.slice (some ⟨g, 0, none⟩) l.length cap) l.length (rats l)) : RatAt w g 0 l := by
  intro i hi
  obtain ⟨e0, e1⟩ := rats_at l i hi
  simp only [Nat.zero_add]
  exact ⟨(h.cellAt (i * 2) (by omega)).trans e0, (h.cellAt (i * 2 + 1) (by omega)).trans e1⟩
theorem Rat_set (p xs : List Value) (j : Nat) (u0 u1 : Value) (hp : p.length = j * 2) (hx : (j + 1) * 2 ≤ xs.length) :
    (((p ++ xs.drop (j * 2)).set (j * 2) u0).set (j * 2 + 1) u1) = p ++ [u0, u1] ++ xs.drop ((j + 1) * 2) := by
  have h0 : j * 2 < xs.length := by omega
  have h1 : j * 2 + 1 < xs.length := by omega
  rw [List.drop_eq_getElem_cons h0, List.drop_eq_getElem_cons h1]
  rw [List.set_append_right _ _ (by omega), hp, List.set_append_right _ _ (by omega), hp]
  simp only [Nat.sub_self, Nat.add_sub_cancel_left, List.set_cons_zero, List.set_cons_succ, List.append_assoc, List.cons_append, List.nil_append]
  rw [show j * 2 + 1 + 1 = (j + 1) * 2 by omega]
theorem Try.infoRat : (Try.prog.info? 80).map (fun i => (i.zero, i.size, i.bytes)) = some (some (.agg #[.int .i64 0, .int .i64 0]), 2, 16) := by kernel_rfl
theorem box_Rat (w : World) (x : Rat) (t : TypeId) (g : Nat) (hg : g = w.heap.size) (W : World) (h : Below (g + 1) (w.alloc (.cells #[.int .i64 x.n, .int .i64 x.d] t)) W) :
    W.cell? ⟨g, 0, none⟩ = some (.int .i64 x.n) ∧ W.cell? ⟨g, 1, none⟩ = some (.int .i64 x.d) := by
  subst hg
  refine ⟨?_, ?_⟩ <;> (rw [h.cell (by simp), World.cell?_alloc_at _ _ _ _ rfl]; rfl)
end Go.Proofs.Ytmmjbdffpgohdaa
