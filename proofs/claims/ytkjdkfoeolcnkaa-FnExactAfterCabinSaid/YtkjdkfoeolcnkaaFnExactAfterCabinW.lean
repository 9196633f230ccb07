/- The law FnExactAfterCabin's walk. Condition: sizes. -/
import Derived.Test.YtkjdkfoeolcnkaaQuL
import Derived.Test.YtkjdkfoeolcnkaaGroM
namespace Go.Proofs.Ytkjdkfoeolcnkaa
open Go.RowKit
set_option linter.unusedVariables false
set_option maxRecDepth 100000 in
set_option maxHeartbeats 4000000 in
theorem FnExactAfterCabin_walk (v0 : Value) (l : List Gro) (s : Int) (w : World) (hr0 : Rs w v0 l.length (gros l)) (hn0 : l.length ≤ maxLen) (hw1 : (Lit.int .i64 s).wf = true) :
    Calls Try.prog 8 #[v0, .int .i64 s] w fun e w' => e = .returned (.bool true) ∧ Below w.heap.size w w' := by
  have HR0 := Lib.hid hr0
  clear hr0
  have hm0 := hn0
  unfold maxLen at hm0
  have HW1 := Lib.hid hw1
  clear hw1
  by_cases h1 : l.length ≤ 1048576
  · skip
    go_enter Try.func8, Try.ntmps8
    go_wp2_with fail
    refine (szGroupS_ok v0 l.length _ _ _ HR0.out (by omega) (by omega)).mono ?_
    rintro e w' ⟨rfl, hw⟩
    have hw := hw.symm
    subst hw
    have t0 := Below.refl w.heap.size w
    go_wp2_with fail
    refine (toGroupS_any v0 l _ (HR0.out.below t0 rfl) h1).mono ?_
    rintro e W1 ⟨vs0, rfl, ns0, b1⟩
    have t1 := t0.trans (b1.mono t0.size)
    have z1 := b1.size
    have os0 := ns0
    have ls0 := betw_of os0
    go_wp2_with fail
    refine (specAfterCabin_c vs0 l s _ (Rs.of_own os0) h1).mono ?_
    rintro e W2 ⟨vw0, rfl, nw0, b2⟩
    have os0 := owns_below os0 b2
    have t2 := t1.trans (b2.mono t1.size)
    have z2 := b2.size
    have ow0 := nw0
    have lw0 := betw_of ow0
    go_wp2_with fail
    refine (toGroupS_any v0 l _ (HR0.out.below t2 rfl) h1).mono ?_
    rintro e W3 ⟨vx0, rfl, nx0, b3⟩
    have ow0 := owns_below ow0 b3
    have t3 := t2.trans (b3.mono t2.size)
    have z3 := b3.size
    have ox0 := nx0
    have lx0 := betw_of ox0
    go_wp2_with fail
    refine (implAfterCabin_c vx0 l s _ (Rs.of_own ox0) h1).mono ?_
    rintro e W4 ⟨vg0, rfl, ng0, b4⟩
    have ow0 := owns_below ow0 b4
    have ox0 := owns_below ox0 b4
    have t4 := t3.trans (b4.mono t3.size)
    have z4 := b4.size
    have og0 := ng0
    have lg0 := betw_of og0
    go_wp2_with fail
    refine (eqGroupS_same vg0 vw0 (afV l s) _ (Rs.of_own og0) (Rs.of_own ow0)).mono ?_
    rintro e W5 ⟨rfl, b5⟩
    have ow0 := owns_below ow0 b5
    have ox0 := owns_below ox0 b5
    have og0 := owns_below og0 b5
    have t5 := t4.trans (b5.mono t4.size)
    have z5 := b5.size
    go_wp2_with fail
    refine (toGroupS_any v0 l _ (HR0.out.below t5 rfl) h1).mono ?_
    rintro e W6 ⟨vy0, rfl, ny0, b6⟩
    have ow0 := owns_below ow0 b6
    have ox0 := owns_below ox0 b6
    have og0 := owns_below og0 b6
    have t6 := t5.trans (b6.mono t5.size)
    have z6 := b6.size
    have oy0 := ny0
    have ly0 := betw_of oy0
    go_wp2_with fail
    refine (eqGroupS_same vx0 vy0 l _ (Rs.of_own ox0) (Rs.of_own oy0)).mono ?_
    rintro e W7 ⟨rfl, b7⟩
    have ow0 := owns_below ow0 b7
    have ox0 := owns_below ox0 b7
    have og0 := owns_below og0 b7
    have oy0 := owns_below oy0 b7
    have t7 := t6.trans (b7.mono t6.size)
    have z7 := b7.size
    go_wp2_with fail
    refine (markGroupS_any _ 1 l.length vx0 _ _ (by omega) (by omega) (by have := b7.size; omega) ox0).mono ?_
    rintro e W8 ⟨rfl, ox0, b8⟩
    have ow0 := ow0.kept b8 (apart lw0 lx0 (by omega))
    have og0 := og0.kept b8 (apart lg0 lx0 (by omega))
    have t8 := t7.trans (below_mark b8 lx0 (by first | exact Nat.le_refl _ | (have := t7.size; omega) | omega) t7.size)
    have z8 := b8.size
    go_wp2_with fail
    refine (eqGroupS_same vg0 vw0 (afV l s) _ (Rs.of_own og0) (Rs.of_own ow0)).mono ?_
    rintro e W9 ⟨rfl, b9⟩
    have ow0 := owns_below ow0 b9
    have og0 := owns_below og0 b9
    have t9 := t8.trans (b9.mono t8.size)
    have z9 := b9.size
    have hb0 : (afV l s).length ≤ 8388608 := by (have := afV_len l s; omega)
    go_wp2_with fail
    refine (markGroupS_any _ 1 (afV l s).length vg0 _ _ (by omega) (by omega) (by have := b9.size; omega) og0).mono ?_
    rintro e W10 ⟨rfl, og0, b10⟩
    have ow0 := ow0.kept b10 (apart lw0 lg0 (by omega))
    have t10 := t9.trans (below_mark b10 lg0 (by first | exact Nat.le_refl _ | (have := t9.size; omega) | omega) t9.size)
    have z10 := b10.size
    go_wp2_with fail
    refine (heldGroupS_c 1 (afV l s).length vg0 _ (by omega) (by omega) (Rs.of_own og0)).mono ?_
    rintro e W11 ⟨rfl, b11⟩
    have ow0 := owns_below ow0 b11
    have og0 := owns_below og0 b11
    have t11 := t10.trans (b11.mono t10.size)
    have z11 := b11.size
    go_wp2_with fail
    refine (toGroupS_any v0 l _ (HR0.out.below t11 rfl) h1).mono ?_
    rintro e W12 ⟨vu0, rfl, nu0, b12⟩
    have ow0 := owns_below ow0 b12
    have og0 := owns_below og0 b12
    have t12 := t11.trans (b12.mono t11.size)
    have z12 := b12.size
    have ou0 := nu0
    have lu0 := betw_of ou0
    go_wp2_with fail
    refine (implAfterCabin_c vu0 l s _ (Rs.of_own ou0) h1).mono ?_
    rintro e W13 ⟨vh0, rfl, nh0, b13⟩
    have ow0 := owns_below ow0 b13
    have og0 := owns_below og0 b13
    have ou0 := owns_below ou0 b13
    have t13 := t12.trans (b13.mono t12.size)
    have z13 := b13.size
    have oh0 := nh0
    have lh0 := betw_of oh0
    go_wp2_with fail
    refine (eqGroupS_same vh0 vw0 (afV l s) _ (Rs.of_own oh0) (Rs.of_own ow0)).mono ?_
    rintro e W14 ⟨rfl, b14⟩
    have ow0 := owns_below ow0 b14
    have og0 := owns_below og0 b14
    have oh0 := owns_below oh0 b14
    have t14 := t13.trans (b14.mono t13.size)
    have z14 := b14.size
    go_wp2_with fail
    refine (heldGroupS_c 1 (afV l s).length vg0 _ (by omega) (by omega) (Rs.of_own og0)).mono ?_
    rintro e W15 ⟨rfl, b15⟩
    have ow0 := owns_below ow0 b15
    have og0 := owns_below og0 b15
    have oh0 := owns_below oh0 b15
    have t15 := t14.trans (b15.mono t14.size)
    go_wp2_with fail
    go_ret
    exact ⟨rfl, t15⟩
  · skip
    go_enter Try.func8, Try.ntmps8
    go_wp2_with fail
    refine (szGroupS_big v0 l.length _ _ _ HR0.out hn0 (by omega) (by omega) (by omega)).mono ?_
    rintro e w' ⟨rfl, hw⟩
    have hw := hw.symm
    subst hw
    go_wp2_with fail
    go_ret
    exact ⟨rfl, Below.refl _ _⟩
end Go.Proofs.Ytkjdkfoeolcnkaa
