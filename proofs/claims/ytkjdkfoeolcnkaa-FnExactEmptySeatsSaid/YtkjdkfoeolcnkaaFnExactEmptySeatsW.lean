/- The law FnExactEmptySeats's walk. Condition: sizes. -/
import Derived.Test.YtkjdkfoeolcnkaaQuN
import Derived.Test.YtkjdkfoeolcnkaaGroM
namespace Go.Proofs.Ytkjdkfoeolcnkaa
open Go.RowKit
set_option linter.unusedVariables false
set_option maxRecDepth 100000 in
set_option maxHeartbeats 4000000 in
theorem FnExactEmptySeats_walk (v0 : Value) (l : List Gro) (s : Int) (w : World) (hr0 : Rs w v0 l.length (gros l)) (hn0 : l.length ≤ maxLen) (hw1 : (Lit.int .i64 s).wf = true) :
    Calls Try.prog 13 #[v0, .int .i64 s] w fun e w' => e = .returned (.bool true) ∧ Below w.heap.size w w' := by
  have HR0 := Lib.hid hr0
  clear hr0
  have hm0 := hn0
  unfold maxLen at hm0
  have HW1 := Lib.hid hw1
  clear hw1
  by_cases h1 : l.length ≤ 1048576
  · skip
    go_enter Try.func13, Try.ntmps13
    go_wp2_with fail
    refine (szGroupS_ok v0 l.length _ _ _ HR0.out (by omega) (by omega)).mono ?_
    rintro e w' ⟨rfl, hw⟩
    have hw := hw.symm
    subst hw
    have t0 := Below.refl w.heap.size w
    go_wp2_with fail
    refine (toGroupS_any v0 l _ (HR0.out.below t0 rfl) h1).mono ?_
    rintro e W1 ⟨vs0, rfl, ns0, b1⟩
    have t1 := t0.trans (b1.mono t0.size)
    have z1 := b1.size
    have os0 := ns0
    have ls0 := betw_of os0
    go_wp2_with fail
    refine (specEmptySeats_c vs0 l s _ (Rs.of_own os0) h1).mono ?_
    rintro e W2 ⟨rfl, b2⟩
    have os0 := owns_below os0 b2
    have t2 := t1.trans (b2.mono t1.size)
    have z2 := b2.size
    go_wp2_with fail
    refine (toGroupS_any v0 l _ (HR0.out.below t2 rfl) h1).mono ?_
    rintro e W3 ⟨vx0, rfl, nx0, b3⟩
    have t3 := t2.trans (b3.mono t2.size)
    have z3 := b3.size
    have ox0 := nx0
    have lx0 := betw_of ox0
    go_wp2_with fail
    refine (implEmptySeats_c vx0 l s _ (Rs.of_own ox0) h1 HW1.out).mono ?_
    rintro e W4 ⟨rfl, b4⟩
    have ox0 := owns_below ox0 b4
    have t4 := t3.trans (b4.mono t3.size)
    have z4 := b4.size
    go_wp2_with fail
    refine (toGroupS_any v0 l _ (HR0.out.below t4 rfl) h1).mono ?_
    rintro e W5 ⟨vy0, rfl, ny0, b5⟩
    have ox0 := owns_below ox0 b5
    have t5 := t4.trans (b5.mono t4.size)
    have z5 := b5.size
    have oy0 := ny0
    have ly0 := betw_of oy0
    go_wp2_with fail
    refine (eqGroupS_same vx0 vy0 l _ (Rs.of_own ox0) (Rs.of_own oy0)).mono ?_
    rintro e W6 ⟨rfl, b6⟩
    have ox0 := owns_below ox0 b6
    have oy0 := owns_below oy0 b6
    have t6 := t5.trans (b6.mono t5.size)
    have z6 := b6.size
    go_wp2_with fail
    go_ret
    exact ⟨rfl, t6⟩
  · skip
    go_enter Try.func13, Try.ntmps13
    go_wp2_with fail
    refine (szGroupS_big v0 l.length _ _ _ HR0.out hn0 (by omega) (by omega) (by omega)).mono ?_
    rintro e w' ⟨rfl, hw⟩
    have hw := hw.symm
    subst hw
    go_wp2_with fail
    go_ret
    exact ⟨rfl, Below.refl _ _⟩
end Go.Proofs.Ytkjdkfoeolcnkaa
