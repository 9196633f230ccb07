/- Queues with groups: what is valid, what is split, and sums. No condition. -/
import Derived.Test.YtkjdkfoeolcnkaaGroS
import Derived.Test.YtkjdkfoeolcnkaaKindW
import Derived.Test.YtkjdkfoeolcnkaaPackMath
namespace Go.Proofs.Ytkjdkfoeolcnkaa
open Go.RowKit
set_option linter.unusedVariables false
/-- A valid queue. -/
def isQ (l : List Gro) : Bool := decide (l.length ≤ 12) && l.all fun x => inR x.z 1 8
/-- A valid queue and number of seats, and all groups fit. -/
def asQ (l : List Gro) (s : Int) : Bool := isQ l && inR s 1 10 && l.all fun x => decide (x.z ≤ s)
theorem isQ_iff (l : List Gro) : isQ l = true ↔ (l.length ≤ 12 ∧ ∀ i, i < l.length → 1 ≤ (gth l i).z ∧ (gth l i).z ≤ 8) := by
  unfold isQ
  rw [Bool.and_eq_true, decide_eq_true_eq, List.all_eq_true]
  refine and_congr Iff.rfl ⟨fun h i hi => (inR_iff _ _ _).1 (h _ (gth_mem hi)), fun h x hx => ?_⟩
  obtain ⟨i, hi, rfl⟩ := List.getElem_of_mem hx
  rw [← gth_get hi]
  exact (inR_iff _ _ _).2 (h i hi)
theorem isQ_bad {l : List Gro} {i : Nat} (hi : i < l.length) (h : inR (gth l i).z 1 8 = false) : isQ l = false := by
  cases e : isQ l with
  | false => rfl
  | true =>
    have := (inR_iff _ _ _).2 (((isQ_iff l).1 e).2 i hi)
    rw [h] at this; cases this
theorem isQ_end {l : List Gro} (h : ∀ i, i < l.length → inR (gth l i).z 1 8 = true) : isQ l = decide (l.length ≤ 12) := by
  rw [Bool.eq_iff_iff, isQ_iff, decide_eq_true_eq]
  exact ⟨fun h => h.1, fun g => ⟨g, fun i hi => (inR_iff _ _ _).1 (h i hi)⟩⟩
theorem all_bad13 {l : List Gro} {f : Gro → Bool} {i : Nat} (hi : i < l.length) (h : f (gth l i) = false) : l.all f = false := by
  cases e : l.all f with
  | false => rfl
  | true => rw [List.all_eq_true] at e; rw [e _ (gth_mem hi)] at h; cases h
theorem all_end13 {l : List Gro} {f : Gro → Bool} (h : ∀ i, i < l.length → f (gth l i) = true) : l.all f = true := by
  rw [List.all_eq_true]
  intro x hx
  obtain ⟨i, hi, rfl⟩ := List.getElem_of_mem hx
  rw [← gth_get hi]
  exact h i hi
theorem asQ_iff (l : List Gro) (s : Int) : asQ l s = true ↔ (isQ l = true ∧ (1 ≤ s ∧ s ≤ 10) ∧ ∀ i, i < l.length → (gth l i).z ≤ s) := by
  unfold asQ
  rw [Bool.and_eq_true, Bool.and_eq_true, inR_iff, List.all_eq_true, and_assoc]
  refine and_congr Iff.rfl (and_congr Iff.rfl ⟨fun h i hi => by simpa using h _ (gth_mem hi), fun h x hx => ?_⟩)
  obtain ⟨i, hi, rfl⟩ := List.getElem_of_mem hx
  rw [← gth_get hi]
  simpa using h i hi
/-- The sizes and the lanes by their index. -/
def szQ (l : List Gro) (i : Nat) : Int := (gth l i).z
def qkQ (l : List Gro) (i : Nat) : Bool := (gth l i).q
theorem szQ_nonneg {l : List Gro} (h : isQ l = true) (i : Nat) : 0 ≤ szQ l i := by
  by_cases hi : i < l.length
  · have := (((isQ_iff l).1 h).2 i hi).1
    unfold szQ; omega
  · unfold szQ gth
    rw [List.getD, List.getElem?_eq_none (by omega)]
    decide
/-- The people of the first k groups of those that a test holds for. -/
def pe13 (l : List Gro) (p : Gro → Bool) (k : Nat) : Int := sum13 (((l.take k).filter p).map fun x => x.z)
/-- A group is split into so many full cabins and a rest. -/
def pc13 (s z : Int) : Nat := ((z - 1) / s).toNat
theorem pc13_bd {s z : Int} (hs : 1 ≤ s) (hz : 1 ≤ z) : (pc13 s z : Int) * s < z ∧ z ≤ ((pc13 s z : Int) + 1) * s := by
  have h1 : 0 ≤ (z - 1) / s := Int.ediv_nonneg (by omega) (by omega)
  have h2 : ((pc13 s z : Nat) : Int) = (z - 1) / s := by unfold pc13; omega
  have h3 := Int.emod_add_mul_ediv (z - 1) s
  have h4 := Int.emod_nonneg (z - 1) (show s ≠ 0 by omega)
  have h5 := Int.emod_lt_of_pos (z - 1) (show 0 < s by omega)
  rw [h2, Int.add_mul, Int.mul_comm ((z - 1) / s) s]
  omega
theorem pc13_more {s z : Int} {j : Nat} (hs : 1 ≤ s) (hz : 1 ≤ z) (h : j < pc13 s z) : s < z - (j : Int) * s ∧ z - ((j + 1 : Nat) : Int) * s = z - (j : Int) * s - s := by
  have h1 := (pc13_bd hs hz).1
  have h2 : ((j : Int) + 1) * s ≤ (pc13 s z : Int) * s := Int.mul_le_mul_of_nonneg_right (by omega) (by omega)
  rw [Int.add_mul] at h2
  rw [Int.natCast_succ, Int.add_mul]
  omega
theorem pc13_last {s z : Int} (hs : 1 ≤ s) (hz : 1 ≤ z) : 0 < z - (pc13 s z : Int) * s ∧ z - (pc13 s z : Int) * s ≤ s := by
  obtain ⟨h1, h2⟩ := pc13_bd hs hz
  rw [Int.add_mul] at h2
  omega
theorem pc13_le {s z : Int} (hs : 1 ≤ s) (hz : 1 ≤ z) : (pc13 s z : Int) < z := by
  have h1 := (pc13_bd hs hz).1
  have h2 : (pc13 s z : Int) * 1 ≤ (pc13 s z : Int) * s := Int.mul_le_mul_of_nonneg_left hs (by omega)
  omega
theorem pc13_nn {s : Int} {j : Nat} (hs : 1 ≤ s) : 0 ≤ (j : Int) * s := Int.mul_nonneg (by omega) (by omega)
/-- The parts of a group, the first j full ones alone. -/
def pf13 (s : Int) (x : Gro) (j : Nat) : List Gro := List.replicate j ⟨s, x.q⟩
def pt13 (s : Int) (x : Gro) : List Gro := pf13 s x (pc13 s x.z) ++ [⟨x.z - (pc13 s x.z : Int) * s, x.q⟩]
theorem pf13_succ (s : Int) (x : Gro) (j : Nat) : pf13 s x (j + 1) = pf13 s x j ++ [⟨s, x.q⟩] := by unfold pf13; rw [List.replicate_succ']
theorem pf13_len (s : Int) (x : Gro) (j : Nat) : (pf13 s x j).length = j := by simp [pf13]
theorem pt13_len (s : Int) (x : Gro) : (pt13 s x).length = pc13 s x.z + 1 := by simp [pt13, pf13]
/-- What a queue is split into, its first k groups alone. -/
def sp13 (s : Int) (l : List Gro) : List Gro := l.flatMap (pt13 s)
theorem sp13_take {s : Int} {l : List Gro} {k : Nat} (h : k < l.length) : sp13 s (l.take (k + 1)) = sp13 s (l.take k) ++ pt13 s (gth l k) := by
  unfold sp13; rw [take_gth l k h, List.flatMap_append]; simp
theorem sp13_len {s : Int} {l : List Gro} (hs : 1 ≤ s) (h : ∀ x ∈ l, 1 ≤ x.z ∧ x.z ≤ 8) : (sp13 s l).length ≤ l.length * 8 := by
  induction l with
  | nil => simp [sp13]
  | cons x l ih =>
    have h1 := h x (by simp)
    have h2 := pc13_le hs h1.1
    have h3 := ih fun y hy => h y (List.mem_cons_of_mem _ hy)
    unfold sp13 at *
    rw [List.flatMap_cons, List.length_append, pt13_len, List.length_cons]
    omega
theorem sp13_mem {s : Int} {l : List Gro} (hs : 1 ≤ s) (h : ∀ x ∈ l, 1 ≤ x.z ∧ x.z ≤ 8) {y : Gro} (hy : y ∈ sp13 s l) : 1 ≤ y.z ∧ y.z ≤ 8 ∧ y.z ≤ s := by
  unfold sp13 at hy
  obtain ⟨x, hx, hy⟩ := List.mem_flatMap.1 hy
  obtain ⟨h1, h2⟩ := h x hx
  have h3 := pc13_last hs h1
  have h4 := pc13_nn (j := pc13 s x.z) hs
  unfold pt13 pf13 at hy
  rcases List.mem_append.1 hy with hy | hy
  · obtain ⟨hne, rfl⟩ := List.mem_replicate.1 hy
    have h5 := (pc13_more (j := 0) hs h1 (by omega)).1
    simp at h5 ⊢
    omega
  · rw [List.mem_singleton] at hy
    subst hy
    simp
    omega
theorem sp13_isQ {s : Int} {l : List Gro} (hs : 1 ≤ s) (h : isQ l = true) : isQ (sp13 s l) = decide ((sp13 s l).length ≤ 12) := by
  refine isQ_end fun i hi => (inR_iff _ _ _).2 ?_
  have hl : ∀ x ∈ l, 1 ≤ x.z ∧ x.z ≤ 8 := fun x hx => by
    obtain ⟨i, hi, rfl⟩ := List.getElem_of_mem hx
    rw [← gth_get hi]
    exact ((isQ_iff l).1 h).2 i hi
  have := sp13_mem hs hl (gth_mem hi)
  exact ⟨this.1, this.2.1⟩
theorem isQ_mem {l : List Gro} (h : isQ l = true) : ∀ x ∈ l, 1 ≤ x.z ∧ x.z ≤ 8 := fun x hx => by
  obtain ⟨i, hi, rfl⟩ := List.getElem_of_mem hx
  rw [← gth_get hi]
  exact ((isQ_iff l).1 h).2 i hi
theorem pt13_small {s : Int} {x : Gro} (hs : 1 ≤ s) (h1 : 1 ≤ x.z) (h2 : x.z ≤ s) : pt13 s x = [x] := by
  have e : pc13 s x.z = 0 := by
    have := (pc13_bd hs h1).1
    by_cases h0 : pc13 s x.z = 0
    · exact h0
    · have : (1 : Int) * s ≤ (pc13 s x.z : Int) * s := Int.mul_le_mul_of_nonneg_right (by omega) (by omega)
      omega
  unfold pt13 pf13
  rw [e]
  simp
theorem sp13_again {s : Int} {l : List Gro} (hs : 1 ≤ s) (h : ∀ x ∈ l, 1 ≤ x.z ∧ x.z ≤ s) : sp13 s l = l := by
  induction l with
  | nil => rfl
  | cons x l ih =>
    have h1 := h x (by simp)
    have h2 := ih fun y hy => h y (List.mem_cons_of_mem _ hy)
    unfold sp13 at *
    rw [List.flatMap_cons, pt13_small hs h1.1 h1.2, h2]; rfl
theorem sum13_app' (a b : List Int) : sum13 (a ++ b) = sum13 a + sum13 b := by
  induction a with
  | nil => simp [sum13]
  | cons x a ih => rw [List.cons_append, sum13_cons, sum13_cons, ih]; omega
/-- Nobody is lost. -/
theorem sp13_sum {s : Int} {l : List Gro} (p : Bool → Bool) : sum13 (((sp13 s l).filter fun x => p x.q).map fun x => x.z) = sum13 ((l.filter fun x => p x.q).map fun x => x.z) := by
  induction l with
  | nil => rfl
  | cons x l ih =>
    have e : sp13 s (x :: l) = pt13 s x ++ sp13 s l := rfl
    rw [e, List.filter_append, List.map_append, sum13_app', ih]
    have e2 : sum13 (((pt13 s x).filter fun x => p x.q).map fun x => x.z) = if p x.q then x.z else 0 := by
      unfold pt13 pf13
      rw [List.filter_append, List.map_append, sum13_app']
      cases hp : p x.q with
      | true =>
        rw [show (List.replicate (pc13 s x.z) (⟨s, x.q⟩ : Gro)).filter (fun x => p x.q) = List.replicate (pc13 s x.z) ⟨s, x.q⟩ from List.filter_eq_self.2 fun y hy => by rw [(List.mem_replicate.1 hy).2]; exact hp]
        rw [List.map_replicate, sum13_rep]
        simp [hp, sum13]
        omega
      | false =>
        rw [show (List.replicate (pc13 s x.z) (⟨s, x.q⟩ : Gro)).filter (fun x => p x.q) = [] from List.filter_eq_nil_iff.2 fun y hy => by rw [(List.mem_replicate.1 hy).2]; simp [hp]]
        simp [hp, sum13]
    rw [e2]
    cases hp : p x.q <;> simp [hp, sum13]
end Go.Proofs.Ytkjdkfoeolcnkaa
