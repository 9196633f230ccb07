/- The law FnExactPullOf's walk. Condition: sizes. -/
import Derived.Test.YtiogjocbiagipaaPullC
namespace Go.Proofs.Ytiogjocbiagipaa
open Go.RowKit
set_option linter.unusedVariables false
set_option maxRecDepth 100000 in
set_option maxHeartbeats 4000000 in
theorem FnExactPullOf_walk (a : Int) (s : Int) (w : World) (hw0 : (Lit.int .i64 a).wf = true) (hw1 : (Lit.int .i64 s).wf = true) :
    Calls Try.prog 7 #[.int .i64 a, .int .i64 s] w fun e w' => e = .returned (.bool true) ∧ Below w.heap.size w w' := by
  have HW0 := Lib.hid hw0
  clear hw0
  have HW1 := Lib.hid hw1
  clear hw1
  go_enter Try.func7, Try.ntmps7
  have t0 := Below.refl w.heap.size w
  go_wp2_with fail
  refine (specPullOf_c a s _ HW0.out HW1.out).mono ?_
  rintro e W1 ⟨rfl, b1⟩
  have t1 := t0.trans (b1.mono t0.size)
  have z1 := b1.size
  go_wp2_with fail
  refine (implPullOf_c a s _ HW0.out HW1.out).mono ?_
  rintro e W2 ⟨rfl, b2⟩
  have t2 := t1.trans (b2.mono t1.size)
  have z2 := b2.size
  go_wp2_with fail
  go_ret
  exact ⟨rfl, t2⟩
end Go.Proofs.Ytiogjocbiagipaa
