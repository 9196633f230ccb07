/- What a kind of rope is: the program's and the specification's answer as one function. No condition. -/
import Derived.Test.YtinlcbljpclccaaRKS
namespace Go.Proofs.Ytinlcbljpclccaa
open Go.RowKit
set_option linter.unusedVariables false
/-- x is in lo..hi. -/
def inR (x lo hi : Int) : Bool := decide (lo ≤ x) && decide (x ≤ hi)
theorem inR_iff (x lo hi : Int) : inR x lo hi = true ↔ lo ≤ x ∧ x ≤ hi := by simp [inR]
theorem inR_no (x lo hi : Int) : inR x lo hi = false ↔ x < lo ∨ hi < x := by
  unfold inR; rw [Bool.and_eq_false_iff]; simp
theorem ret_b {a b : Bool} (h : a = b) : Ending.returned (.bool a) = .returned (.bool b) := by rw [h]
theorem within_c (x lo hi : Int) (w : World) :
    Calls Try.prog 51 #[.int .i64 x, .int .i64 lo, .int .i64 hi] w fun e w' => e = .returned (.bool (inR x lo hi)) ∧ w' = w := by
  unfold inR
  by_cases h1 : lo ≤ x
  · have h2 : decide (lo ≤ x) = true := by simpa using h1
    rw [h2]
    go_enter Try.func51, Try.ntmps51
    go_wp2
    go_ret
    exact ⟨by simp, rfl⟩
  · have h2 : decide (lo ≤ x) = false := by simpa using h1
    rw [h2]
    go_enter Try.func51, Try.ntmps51
    go_wp2
    go_ret
    exact ⟨by simp, rfl⟩
theorem l1In_c (x lo hi : Int) (w : World) :
    Calls Try.prog 66 #[.int .i64 x, .int .i64 lo, .int .i64 hi] w fun e w' => e = .returned (.bool (inR x lo hi)) ∧ w' = w := by
  unfold inR
  by_cases h1 : lo ≤ x
  · have h2 : decide (lo ≤ x) = true := by simpa using h1
    rw [h2]
    go_enter Try.func66, Try.ntmps66
    go_wp2
    go_ret
    exact ⟨by simp, rfl⟩
  · have h2 : decide (lo ≤ x) = false := by simpa using h1
    rw [h2]
    go_enter Try.func66, Try.ntmps66
    go_wp2
    go_ret
    exact ⟨by simp, rfl⟩
/-- A valid kind. -/
def isK (k : RK) : Bool := inR k.i 1 20 && inR k.s 4 8 && inR k.w 7 40 && inR k.g 10 500 && inR k.p 10 5000
theorem isK_iff (k : RK) : isK k = true ↔ (1 ≤ k.i ∧ k.i ≤ 20) ∧ (4 ≤ k.s ∧ k.s ≤ 8) ∧ (7 ≤ k.w ∧ k.w ≤ 40) ∧ (10 ≤ k.g ∧ k.g ≤ 500) ∧ (10 ≤ k.p ∧ k.p ≤ 5000) := by
  unfold isK; simp only [Bool.and_eq_true, inR_iff]
  constructor
  · rintro ⟨⟨⟨⟨a, b⟩, c⟩, d⟩, e⟩; exact ⟨a, b, c, d, e⟩
  · rintro ⟨a, b, c, d, e⟩; exact ⟨⟨⟨⟨a, b⟩, c⟩, d⟩, e⟩
end Go.Proofs.Ytinlcbljpclccaa
