/- CabinLoad: the program's and the specification's answer as one function. No condition. -/
import Derived.Test.YtiogjocbiagipabCabW
namespace Go.Proofs.Ytiogjocbiagipab
open Go.RowKit
set_option linter.unusedVariables false
def clOk (c : Cab) (n : Int) : Bool := isC c && inR n 0 c.s
def clV (c : Cab) (n : Int) : Int := if clOk c n then c.w + 80 * n else 0
theorem cl_no {c : Cab} {n : Int} (h : clOk c n = false) : clV c n = 0 := by simp [clV, h]
theorem cl_yes {c : Cab} {n : Int} (h : clOk c n = true) : clV c n = c.w + 80 * n := by simp [clV, h]
theorem cl_bd {c : Cab} {n : Int} (h : clOk c n = true) : 0 ≤ n ∧ n ≤ 16 ∧ 100 ≤ c.w ∧ c.w ≤ 2000 := by
  unfold clOk at h
  rw [Bool.and_eq_true, isC_iff, inR_iff] at h
  omega
theorem ret_p {a b : Int} {c d : Bool} (h : a = b) (g : c = d) : Ending.returned (.tuple #[.int .i64 a, .bool c]) = .returned (.tuple #[.int .i64 b, .bool d]) := by rw [h, g]
end Go.Proofs.Ytiogjocbiagipab
