/- The law FnExactSpeedFor's walk. Condition: sizes. -/
import Derived.Test.YtklfipmjdhkkiaaProfW
namespace Go.Proofs.Ytklfipmjdhkkiaa
open Go.RowKit
set_option linter.unusedVariables false
set_option maxRecDepth 100000 in
set_option maxHeartbeats 4000000 in
theorem FnExactSpeedFor_walk (way a : Int) (w : World) (hwway : (Lit.int .i64 way).wf = true) (hwa : (Lit.int .i64 a).wf = true) :
    Calls Try.prog 7 #[.int .i64 way, .int .i64 a] w fun e w' => e = .returned (.bool true) ∧ Below w.heap.size w w' := by
  have HWway := Lib.hid hwway
  have HWa := Lib.hid hwa
  clear hwway hwa
  have t0 := Below.refl w.heap.size w
  go_enter Try.func7, Try.ntmps7
  go_wp2_with fail
  refine (specSpeedFor_c way a _ ).mono ?_
  rintro e W1 ⟨rfl, b1⟩
  have t2 := t0.trans (b1.mono t0.size)
  have z2 := b1.size
  go_wp2_with fail
  refine (implSpeedFor_c way a _ ).mono ?_
  rintro e W3 ⟨rfl, b3⟩
  have t4 := t2.trans (b3.mono t2.size)
  have z4 := b3.size
  go_wp2_with fail
  go_ret
  exact ⟨rfl, t4⟩
end Go.Proofs.Ytklfipmjdhkkiaa
