/- SteepestSpan: the program's and the specification's answer as one function of the line. Condition: sizes. -/
import Derived.Test.YtdnmmafnjhgeiaaSpanW
namespace Go.Proofs.Ytdnmmafnjhgeiaa
open Go.RowKit
set_option linter.unusedVariables false
/-- The steepest of the first k spans. -/
def stpK (l : List Sup) : Nat → Nat
  | 0 => 0
  | k + 1 => if iabs (srise l (stpK l k)) * slen l k < iabs (srise l k) * slen l (stpK l k) then k else stpK l k
theorem stpK_lt (l : List Sup) : ∀ k, stpK l k < k ∨ stpK l k = 0
  | 0 => .inr rfl
  | k + 1 => by
    have h := stpK_lt l k
    simp only [stpK]
    split <;> omega
theorem stpK_bd (l : List Sup) (k : Nat) (h : k + 1 ≤ l.length) (h2 : 2 ≤ l.length) : stpK l k + 1 < l.length := by
  have := stpK_lt l k
  omega
theorem stpK_one (l : List Sup) : stpK l 1 = 0 := by simp [stpK]
theorem mul_bd {x y : Int} (h1 : 0 ≤ x ∧ x ≤ 2000) (h2 : 0 < y ∧ y ≤ 3000) : 0 ≤ x * y ∧ x * y ≤ 6000000 :=
  ⟨Int.mul_nonneg h1.1 (by omega), by
    have := Int.mul_le_mul h1.2 h2.2 (by omega) (by omega : (0:Int) ≤ 2000)
    omega⟩
noncomputable def steep (l : List Sup) : Int := if isL l then (stpK l (l.length - 1) : Int) else 0
end Go.Proofs.Ytdnmmafnjhgeiaa
