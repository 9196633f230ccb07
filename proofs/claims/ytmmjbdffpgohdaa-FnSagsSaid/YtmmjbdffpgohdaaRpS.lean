/- Slices of impl.Rope: the helpers of the exact laws. Condition: sizes. -/
import Derived.Test.YtmmjbdffpgohdaaGS
namespace Go.Proofs.Ytmmjbdffpgohdaa
open Go.RowKit
set_option linter.unusedVariables false
/-- A Rope. -/
structure Rp where
  w : Int
  p : Int
instance : Inhabited Rp := ⟨⟨0, 0⟩⟩
def Rp.enc (x : Rp) : List Value := [.int .i64 x.w, .int .i64 x.p]
def Rp.agg (x : Rp) : Value := .agg #[.int .i64 x.w, .int .i64 x.p]
theorem Rp.enc_len (x : Rp) : x.enc.length = 2 := rfl
/-- Its numbers are in range. -/
def Rp.wf (x : Rp) : Prop := (Lit.int .i64 x.w).wf = true ∧ (Lit.int .i64 x.p).wf = true
theorem Rp.ext {x y : Rp} (h0 : x.w = y.w) (h1 : x.p = y.p) : x = y := by cases x; cases y; simp_all
abbrev rps (l : List Rp) : List Value := flat Rp.enc l
theorem rps_len (l : List Rp) : (rps l).length = l.length * 2 := flat_len Rp.enc_len l
theorem rps_append (l r : List Rp) : rps (l ++ r) = rps l ++ rps r := flat_append _ l r
theorem rps_one (x : Rp) : rps [x] = [.int .i64 x.w, .int .i64 x.p] := by simp [flat, Rp.enc]
theorem rps_at (l : List Rp) (i : Nat) (hi : i < l.length) : (rps l)[i * 2]? = some (.int .i64 (gth l i).w) ∧ (rps l)[i * 2 + 1]? = some (.int .i64 (gth l i).p) :=
  ⟨flat_at Rp.enc_len default l i 0 hi (by decide), flat_at Rp.enc_len default l i 1 hi (by decide)⟩
theorem rps_take_len (l : List Rp) (j : Nat) (h : j ≤ l.length) : (rps (l.take j)).length = j * 2 := by rw [rps_len, List.length_take, Nat.min_eq_left h]
theorem rps_one_cell (l : List Rp) : ∀ v ∈ rps l, v.oneCell' = true := by
  intro v hv
  obtain ⟨x, _, hx⟩ := List.mem_flatMap.1 hv
  simp [Rp.enc] at hx
  rcases hx with rfl | rfl <;> rfl
/-- The cells of a row. -/
def RpAt (w : World) (b off : Nat) (l : List Rp) : Prop := ∀ i, i < l.length →
  w.cell? ⟨b, off + i * 2, none⟩ = some (.int .i64 (gth l i).w) ∧ w.cell? ⟨b, off + i * 2 + 1, none⟩ = some (.int .i64 (gth l i).p)
theorem RpAt.below {w w' : World} {b off : Nat} {l : List Rp} {B : Nat} (h : RpAt w b off l) (hb : Below B w w') (hlt : b < B) : RpAt w' b off l := fun i hi =>
  ⟨(hb.cell (p := ⟨b, off + i * 2, none⟩) hlt).trans (h i hi).1, (hb.cell (p := ⟨b, off + i * 2 + 1, none⟩) hlt).trans (h i hi).2⟩
theorem RpAt.drew {w w' : World} {b off : Nat} {l : List Rp} (h : RpAt w b off l) (hd : Drew w w') : RpAt w' b off l := fun i hi =>
  ⟨(hd.cell _).trans (h i hi).1, (hd.cell _).trans (h i hi).2⟩
theorem RpAt.zero {w : World} {b off : Nat} {l : List Rp} (h : RpAt w b off l) (h0 : 0 < l.length) :
    w.cell? ⟨b, off, none⟩ = some (.int .i64 (gth l 0).w) ∧ w.cell? ⟨b, off + 1, none⟩ = some (.int .i64 (gth l 0).p) := by
  have := h 0 h0; simpa using this
theorem Rs.at_Rp {w : World} {v : Value} {l : List Rp} (h : Rs w v l.length (rps l)) (h0 : l.length ≠ 0) :
    ∃ b off cap, v = .slice (some ⟨b, off, none⟩) l.length cap ∧ b < w.heap.size ∧ l.length ≤ maxLen ∧ RpAt w b off l := by
  obtain ⟨b, off, cap, rfl, hb, hc, hm, hx⟩ := h.pos h0
  refine ⟨b, off, cap, rfl, hb, hm, fun i hi => ?_⟩
  obtain ⟨e0, e1⟩ := rps_at l i hi
  exact ⟨hx _ _ e0, hx _ _ e1⟩
/-- A row that may be empty: its address is told where there is an element. -/
theorem Rs.form_Rp {w : World} {v : Value} {l : List Rp} (h : Rs w v l.length (rps l)) :
    ∃ ao b off cap, v = .slice ao l.length cap ∧ (0 < l.length → ao = some ⟨b, off, none⟩ ∧ b < w.heap.size ∧ l.length ≤ maxLen) ∧ RpAt w b off l := by
  by_cases h0 : l.length = 0
  · obtain ⟨a, ca, hv⟩ := h.shape
    exact ⟨a, 0, 0, ca, hv, fun h => by omega, fun i hi => by omega⟩
  · obtain ⟨b, off, cap, hv, hb, hm, hx⟩ := h.at_Rp h0
    exact ⟨_, b, off, cap, hv, fun _ => ⟨rfl, hb, hm⟩, hx⟩
theorem own_Rp {w : World} {B g cap : Nat} {T : TypeId} {l : List Rp} (h : w.ownsRow B T 2 (.slice (some ⟨g, 0, none⟩) l.length cap) l.length (rps l)) : RpAt w g 0 l := by
  intro i hi
  obtain ⟨e0, e1⟩ := rps_at l i hi
  simp only [Nat.zero_add]
  exact ⟨(h.cellAt (i * 2) (by omega)).trans e0, (h.cellAt (i * 2 + 1) (by omega)).trans e1⟩
theorem Rp_set (p xs : List Value) (j : Nat) (u0 u1 : Value) (hp : p.length = j * 2) (hx : (j + 1) * 2 ≤ xs.length) :
    (((p ++ xs.drop (j * 2)).set (j * 2) u0).set (j * 2 + 1) u1) = p ++ [u0, u1] ++ xs.drop ((j + 1) * 2) := by
  have h0 : j * 2 < xs.length := by omega
  have h1 : j * 2 + 1 < xs.length := by omega
  rw [List.drop_eq_getElem_cons h0, List.drop_eq_getElem_cons h1]
  rw [List.set_append_right _ _ (by omega), hp, List.set_append_right _ _ (by omega), hp]
  simp only [Nat.sub_self, Nat.add_sub_cancel_left, List.set_cons_zero, List.set_cons_succ, List.append_assoc, List.cons_append, List.nil_append]
  rw [show j * 2 + 1 + 1 = (j + 1) * 2 by omega]
theorem Try.infoRp : (Try.prog.info? 26).map (fun i => (i.zero, i.size, i.bytes)) = some (some (.agg #[.int .i64 0, .int .i64 0]), 2, 16) := by kernel_rfl
theorem box_Rp (w : World) (x : Rp) (t : TypeId) (g : Nat) (hg : g = w.heap.size) (W : World) (h : Below (g + 1) (w.alloc (.cells #[.int .i64 x.w, .int .i64 x.p] t)) W) :
    W.cell? ⟨g, 0, none⟩ = some (.int .i64 x.w) ∧ W.cell? ⟨g, 1, none⟩ = some (.int .i64 x.p) := by
  subst hg
  refine ⟨?_, ?_⟩ <;> (rw [h.cell (by simp), World.cell?_alloc_at _ _ _ _ rfl]; rfl)
end Go.Proofs.Ytmmjbdffpgohdaa
