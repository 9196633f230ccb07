/- The law FnExactIsGround's walk. Condition: sizes. -/
import Derived.Test.YteglekfiannncaaGroundC
import Derived.Test.YteglekfiannncaaGroundS
namespace Go.Proofs.Yteglekfiannncaa
open Go.RowKit
set_option linter.unusedVariables false
set_option maxRecDepth 100000 in
set_option maxHeartbeats 4000000 in
theorem FnExactIsGround_walk (v0 : Value) (l : List Sup) (v1 : Value) (g : List GP) (w : World) (hr0 : Rs w v0 l.length (sups l)) (hn0 : l.length ≤ maxLen) (hr1 : Rs w v1 g.length (gps g)) (hn1 : g.length ≤ maxLen) :
    Calls Try.prog 10 #[v0, v1] w fun e w' => e = .returned (.bool true) ∧ Below w.heap.size w w' := by
  have HR0 := Lib.hid hr0
  clear hr0
  have hm0 := hn0
  unfold maxLen at hm0
  have HR1 := Lib.hid hr1
  clear hr1
  have hm1 := hn1
  unfold maxLen at hm1
  by_cases hb0 : (l.length : Int) ≤ 1048576
  · skip
    by_cases hb1 : (g.length : Int) ≤ 1048576 - (l.length : Int)
    · skip
      have hl0 : l.length ≤ 1048576 := by omega
      have hl1 : g.length ≤ 1048576 := by omega
      go_enter Try.func10, Try.ntmps10
      go_wp2_with fail
      refine (szSupportS_ok v0 l.length _ _ _ HR0.out (by omega) (by omega)).mono ?_
      rintro e w' ⟨rfl, hw⟩
      have hw := hw.symm
      subst hw
      go_wp2_with fail
      refine (szGroundPointS_ok v1 g.length _ _ _ HR1.out (by omega) (by omega)).mono ?_
      rintro e w' ⟨rfl, hw⟩
      have hw := hw.symm
      subst hw
      have t0 := Below.refl w.heap.size w
      go_wp2_with fail
      refine (toSupportS_any v0 l _ (HR0.out.below t0 rfl) hl0).mono ?_
      rintro e W1 ⟨vs0, rfl, ns0, b1⟩
      have t1 := t0.trans (b1.mono t0.size)
      have z1 := b1.size
      have os0 := ns0
      have ls0 := betw_of os0
      go_wp2_with fail
      refine (toGroundPointS_any v1 g _ (HR1.out.below t1 rfl) hl1).mono ?_
      rintro e W2 ⟨vs1, rfl, ns1, b2⟩
      have os0 := owns_below os0 b2
      have t2 := t1.trans (b2.mono t1.size)
      have z2 := b2.size
      have os1 := ns1
      have ls1 := betw_of os1
      go_wp2_with fail
      refine (specIsGround_c vs0 l vs1 g _ (Rs.of_own os0) hl0 (Rs.of_own os1) hl1).mono ?_
      rintro e W3 ⟨rfl, b3⟩
      have os0 := owns_below os0 b3
      have os1 := owns_below os1 b3
      have t3 := t2.trans (b3.mono t2.size)
      have z3 := b3.size
      go_wp2_with fail
      refine (toSupportS_any v0 l _ (HR0.out.below t3 rfl) hl0).mono ?_
      rintro e W4 ⟨vx0, rfl, nx0, b4⟩
      have t4 := t3.trans (b4.mono t3.size)
      have z4 := b4.size
      have ox0 := nx0
      have lx0 := betw_of ox0
      go_wp2_with fail
      refine (toGroundPointS_any v1 g _ (HR1.out.below t4 rfl) hl1).mono ?_
      rintro e W5 ⟨vx1, rfl, nx1, b5⟩
      have ox0 := owns_below ox0 b5
      have t5 := t4.trans (b5.mono t4.size)
      have z5 := b5.size
      have ox1 := nx1
      have lx1 := betw_of ox1
      go_wp2_with fail
      refine (implIsGround_c vx0 l vx1 g _ (Rs.of_own ox0) hl0 (Rs.of_own ox1) hl1).mono ?_
      rintro e W6 ⟨rfl, b6⟩
      have ox0 := owns_below ox0 b6
      have ox1 := owns_below ox1 b6
      have t6 := t5.trans (b6.mono t5.size)
      have z6 := b6.size
      go_wp2_with fail
      refine (toSupportS_any v0 l _ (HR0.out.below t6 rfl) hl0).mono ?_
      rintro e W7 ⟨vy0, rfl, ny0, b7⟩
      have ox0 := owns_below ox0 b7
      have ox1 := owns_below ox1 b7
      have t7 := t6.trans (b7.mono t6.size)
      have z7 := b7.size
      have oy0 := ny0
      have ly0 := betw_of oy0
      go_wp2_with fail
      refine (eqSupportS_same vx0 vy0 l _ (Rs.of_own ox0) (Rs.of_own oy0)).mono ?_
      rintro e W8 ⟨rfl, b8⟩
      have ox0 := owns_below ox0 b8
      have ox1 := owns_below ox1 b8
      have oy0 := owns_below oy0 b8
      have t8 := t7.trans (b8.mono t7.size)
      have z8 := b8.size
      go_wp2_with fail
      refine (toGroundPointS_any v1 g _ (HR1.out.below t8 rfl) hl1).mono ?_
      rintro e W9 ⟨vy1, rfl, ny1, b9⟩
      have ox0 := owns_below ox0 b9
      have ox1 := owns_below ox1 b9
      have t9 := t8.trans (b9.mono t8.size)
      have z9 := b9.size
      have oy1 := ny1
      have ly1 := betw_of oy1
      go_wp2_with fail
      refine (eqGroundPointS_same vx1 vy1 g _ (Rs.of_own ox1) (Rs.of_own oy1)).mono ?_
      rintro e W10 ⟨rfl, b10⟩
      have ox0 := owns_below ox0 b10
      have ox1 := owns_below ox1 b10
      have oy1 := owns_below oy1 b10
      have t10 := t9.trans (b10.mono t9.size)
      have z10 := b10.size
      go_wp2_with fail
      go_ret
      exact ⟨rfl, t10⟩
    · skip
      go_enter Try.func10, Try.ntmps10
      go_wp2_with fail
      refine (szSupportS_ok v0 l.length _ _ _ HR0.out (by omega) (by omega)).mono ?_
      rintro e w' ⟨rfl, hw⟩
      have hw := hw.symm
      subst hw
      go_wp2_with fail
      refine (szGroundPointS_big v1 g.length _ _ _ HR1.out hn1 (by omega) (by omega) (by omega)).mono ?_
      rintro e w' ⟨rfl, hw⟩
      have hw := hw.symm
      subst hw
      go_wp2_with fail
      go_ret
      exact ⟨rfl, Below.refl _ _⟩
  · skip
    go_enter Try.func10, Try.ntmps10
    go_wp2_with fail
    refine (szSupportS_big v0 l.length _ _ _ HR0.out hn0 (by omega) (by omega) (by omega)).mono ?_
    rintro e w' ⟨rfl, hw⟩
    have hw := hw.symm
    subst hw
    go_wp2_with fail
    go_ret
    exact ⟨rfl, Below.refl _ _⟩
end Go.Proofs.Yteglekfiannncaa
