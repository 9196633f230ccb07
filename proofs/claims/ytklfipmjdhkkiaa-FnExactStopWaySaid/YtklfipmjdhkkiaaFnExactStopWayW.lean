/- The law FnExactStopWay's walk. Condition: sizes. -/
import Derived.Test.YtklfipmjdhkkiaaProfW
namespace Go.Proofs.Ytklfipmjdhkkiaa
open Go.RowKit
set_option linter.unusedVariables false
set_option maxRecDepth 100000 in
set_option maxHeartbeats 4000000 in
theorem FnExactStopWay_walk (s a : Int) (w : World) (hws : (Lit.int .i64 s).wf = true) (hwa : (Lit.int .i64 a).wf = true) :
    Calls Try.prog 6 #[.int .i64 s, .int .i64 a] w fun e w' => e = .returned (.bool true) ∧ Below w.heap.size w w' := by
  have HWs := Lib.hid hws
  have HWa := Lib.hid hwa
  clear hws hwa
  have t0 := Below.refl w.heap.size w
  go_enter Try.func6, Try.ntmps6
  go_wp2_with fail
  refine (specStopWay_c s a _ ).mono ?_
  rintro e W1 ⟨rfl, b1⟩
  have t2 := t0.trans (b1.mono t0.size)
  have z2 := b1.size
  go_wp2_with fail
  refine (implStopWay_c s a _ ).mono ?_
  rintro e W3 ⟨rfl, b3⟩
  have t4 := t2.trans (b3.mono t2.size)
  have z4 := b3.size
  go_wp2_with fail
  go_ret
  exact ⟨rfl, t4⟩
end Go.Proofs.Ytklfipmjdhkkiaa
