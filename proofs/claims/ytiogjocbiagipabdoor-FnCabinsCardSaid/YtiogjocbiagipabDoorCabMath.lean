/- Lists of cabins: what is kept of a list, numbers, sums. No condition. -/
import Derived.Test.YtiogjocbiagipabDoorCabsW
namespace Go.Proofs.YtiogjocbiagipabDoor
open Go.RowKit
set_option linter.unusedVariables false
theorem filt_yes {α : Type} [Inhabited α] {p : α → Bool} {l : List α} {k : Nat} (h : k < l.length) (hp : p (gth l k) = true) : (l.take (k + 1)).filter p = (l.take k).filter p ++ [gth l k] := by
  rw [take_gth l k h, List.filter_append]; simp [hp]
theorem filt_no {α : Type} [Inhabited α] {p : α → Bool} {l : List α} {k : Nat} (h : k < l.length) (hp : p (gth l k) = false) : (l.take (k + 1)).filter p = (l.take k).filter p := by
  rw [take_gth l k h, List.filter_append]; simp [hp]
theorem filt_len {α : Type} (p : α → Bool) (l : List α) (k : Nat) : ((l.take k).filter p).length ≤ k := by
  have h1 := List.length_filter_le p (l.take k)
  have h2 := List.length_take_le k l
  omega
theorem filt_len' {α : Type} (p : α → Bool) (l : List α) (k : Nat) : ((l.take k).filter p).length ≤ l.length := by
  have h1 := List.length_filter_le p (l.take k)
  have h2 := List.length_take_le' k l
  omega
/-- Its state is s. -/
def inSt (s : Int) (c : Cab) : Bool := c.g == s
/-- The cabins in a state. -/
def stOf (l : List Cab) (s : Int) : List Cab := l.filter (inSt s)
theorem stOf_len (l : List Cab) (s : Int) : (stOf l s).length ≤ l.length := List.length_filter_le _ _
/-- The numbers. -/
def nums (l : List Cab) : List Int := l.map Cab.i
theorem nums_len (l : List Cab) : (nums l).length = l.length := by simp [nums]
theorem nums_one (l : List Cab) (c : Cab) : nums (l ++ [c]) = nums l ++ [c.i] := by simp [nums]
theorem nums_take {l : List Cab} {k : Nat} (h : k < l.length) : nums (l.take (k + 1)) = nums (l.take k) ++ [(gth l k).i] := by rw [take_gth l k h, nums_one]
/-- The seats together. -/
def sumS : List Cab → Int
  | [] => 0
  | c :: r => c.s + sumS r
theorem sumS_append (a b : List Cab) : sumS (a ++ b) = sumS a + sumS b := by
  induction a with
  | nil => simp [sumS]
  | cons x r ih => simp [sumS, ih]; omega
theorem sumS_one (a : List Cab) (c : Cab) : sumS (a ++ [c]) = sumS a + c.s := by rw [sumS_append]; simp [sumS]
theorem sumS_bound (a : List Cab) (h : ∀ c ∈ a, 1 ≤ c.s ∧ c.s ≤ 16) : 0 ≤ sumS a ∧ sumS a ≤ 16 * a.length := by
  induction a with
  | nil => simp [sumS]
  | cons x r ih =>
    have h1 := h x (by simp)
    have h2 := ih (fun c hc => h c (by simp [hc]))
    simp only [sumS, List.length_cons]
    omega
theorem Cabs.at {l : List Cab} (h : Cabs l) {c : Cab} (hc : c ∈ l) : isC c = true := by
  obtain ⟨i, hi, rfl⟩ := List.getElem_of_mem hc
  have := (h.ok i hi).1
  rwa [gth_get hi] at this
theorem Cabs.seats {l : List Cab} (h : Cabs l) {c : Cab} (hc : c ∈ l) : 1 ≤ c.s ∧ c.s ≤ 16 := ((isC_iff c).1 (h.at hc)).2.1
theorem Cabs.lt {l : List Cab} (h : Cabs l) : ∀ j i, i < j → j < l.length → (gth l i).i < (gth l j).i := by
  intro j
  induction j with
  | zero => intro i hi; omega
  | succ j ih =>
    intro i hi hj
    have h1 := (h.ok (j + 1) hj).2 (by omega)
    rw [Nat.add_sub_cancel] at h1
    by_cases e : i = j
    · subst e; exact h1
    · have := ih i (by omega) (by omega); omega
theorem Cabs.pair {l : List Cab} (h : Cabs l) : l.Pairwise (fun a b => a.i < b.i) := by
  rw [List.pairwise_iff_getElem]
  intro i j hi hj hij
  have := h.lt j i hij hj
  rwa [gth_get hi, gth_get hj] at this
end Go.Proofs.YtiogjocbiagipabDoor
