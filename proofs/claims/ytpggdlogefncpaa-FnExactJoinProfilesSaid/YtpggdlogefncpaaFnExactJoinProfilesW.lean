/- The law FnExactJoinProfiles's walk. Condition: sizes. -/
import Derived.Test.YtpggdlogefncpaaProfJ
import Derived.Test.YtpggdlogefncpaaIntC
import Derived.Test.YtpggdlogefncpaaToInt
namespace Go.Proofs.Ytpggdlogefncpaa
open Go.RowKit
set_option linter.unusedVariables false
set_option maxRecDepth 100000 in
set_option maxHeartbeats 4000000 in
theorem FnExactJoinProfiles_walk (v0 : Value) (l : List Int) (v1 : Value) (m : List Int) (w : World) (hr0 : Rd w v0 (intVs l)) (hn0 : l.length ≤ maxLen) (hr1 : Rd w v1 (intVs m)) (hn1 : m.length ≤ maxLen) :
    Calls Try.prog 10 #[v0, v1] w fun e w' => e = .returned (.bool true) ∧ Below w.heap.size w w' := by
  have hsh0 : ∃ a c, v0 = .slice a l.length c := by rcases hr0 with ⟨h0, a, c, rfl⟩ | ⟨b, off, c, rfl, _⟩ <;> simp_all [intVs]
  obtain ⟨as0, cs0, rfl⟩ := hsh0
  have hsh1 : ∃ a c, v1 = .slice a m.length c := by rcases hr1 with ⟨h0, a, c, rfl⟩ | ⟨b, off, c, rfl, _⟩ <;> simp_all [intVs]
  obtain ⟨as1, cs1, rfl⟩ := hsh1
  have HR0 := Lib.hid hr0
  clear hr0
  have hm0 := hn0
  unfold maxLen at hm0
  have HR1 := Lib.hid hr1
  clear hr1
  have hm1 := hn1
  unfold maxLen at hm1
  by_cases hq0 : l.length ≤ 1048576
  · skip
    by_cases hq1 : m.length ≤ 1048576
    · skip
      have hl0 : l.length ≤ 1048576 := by omega
      have hl1 : m.length ≤ 1048576 := by omega
      have hg0 : ¬ ((1048576 : Int) < (l.length : Int)) := by omega
      have hg1 : ¬ ((1048576 : Int) < (m.length : Int)) := by omega
      go_enter Try.func10, Try.ntmps10
      go_wp2_with fail
      have t0 := Below.refl w.heap.size w
      go_wp2_with fail
      refine (toIntS_any _ l _ (HR0.out.below t0 rfl) hl0).mono ?_
      rintro e W1 ⟨vs0, rfl, ns0, b1⟩
      have t1 := t0.trans (b1.mono t0.size)
      have z1 := b1.size
      have os0 := ns0
      have ls0 := betw_of os0
      go_wp2_with fail
      refine (toIntS_any _ m _ (HR1.out.below t1 rfl) hl1).mono ?_
      rintro e W2 ⟨vs1, rfl, ns1, b2⟩
      have os0 := owns_below os0 b2
      have t2 := t1.trans (b2.mono t1.size)
      have z2 := b2.size
      have os1 := ns1
      have ls1 := betw_of os1
      go_wp2_with fail
      refine (specJoinProfiles_c vs0 l vs1 m _ (Rd.of_own os0) hl0 (Rd.of_own os1) (own_cap os1) hl1).mono ?_
      rintro e W3 ⟨vw0, rfl, nw0, b3⟩
      have os0 := owns_below os0 b3
      have os1 := owns_below os1 b3
      have t3 := t2.trans (b3.mono t2.size)
      have z3 := b3.size
      have ow0 := nw0
      have lw0 := betw_of ow0
      go_wp2_with fail
      refine (toIntS_any _ l _ (HR0.out.below t3 rfl) hl0).mono ?_
      rintro e W4 ⟨vx0, rfl, nx0, b4⟩
      have ow0 := owns_below ow0 b4
      have t4 := t3.trans (b4.mono t3.size)
      have z4 := b4.size
      have ox0 := nx0
      have lx0 := betw_of ox0
      go_wp2_with fail
      refine (toIntS_any _ m _ (HR1.out.below t4 rfl) hl1).mono ?_
      rintro e W5 ⟨vx1, rfl, nx1, b5⟩
      have ow0 := owns_below ow0 b5
      have ox0 := owns_below ox0 b5
      have t5 := t4.trans (b5.mono t4.size)
      have z5 := b5.size
      have ox1 := nx1
      have lx1 := betw_of ox1
      go_wp2_with fail
      refine (implJoinProfiles_c vx0 l vx1 m _ (Rd.of_own ox0) hl0 (Rd.of_own ox1) (own_cap ox1) hl1).mono ?_
      rintro e W6 ⟨vg0, rfl, ng0, b6⟩
      have ow0 := owns_below ow0 b6
      have ox0 := owns_below ox0 b6
      have ox1 := owns_below ox1 b6
      have t6 := t5.trans (b6.mono t5.size)
      have z6 := b6.size
      have og0 := ng0
      have lg0 := betw_of og0
      go_wp2_with fail
      refine (eqIntS_c vg0 vw0 (jnR l m) _ (Rd.of_own og0) (Rd.of_own ow0)).mono ?_
      rintro e W7 ⟨rfl, b7⟩
      have ow0 := owns_below ow0 b7
      have ox0 := owns_below ox0 b7
      have ox1 := owns_below ox1 b7
      have og0 := owns_below og0 b7
      have t7 := t6.trans (b7.mono t6.size)
      have z7 := b7.size
      go_wp2_with fail
      refine (toIntS_any _ l _ (HR0.out.below t7 rfl) hl0).mono ?_
      rintro e W8 ⟨vy0, rfl, ny0, b8⟩
      have ow0 := owns_below ow0 b8
      have ox0 := owns_below ox0 b8
      have ox1 := owns_below ox1 b8
      have og0 := owns_below og0 b8
      have t8 := t7.trans (b8.mono t7.size)
      have z8 := b8.size
      have oy0 := ny0
      have ly0 := betw_of oy0
      go_wp2_with fail
      refine (eqIntS_c vx0 vy0 l _ (Rd.of_own ox0) (Rd.of_own oy0)).mono ?_
      rintro e W9 ⟨rfl, b9⟩
      have ow0 := owns_below ow0 b9
      have ox0 := owns_below ox0 b9
      have ox1 := owns_below ox1 b9
      have og0 := owns_below og0 b9
      have oy0 := owns_below oy0 b9
      have t9 := t8.trans (b9.mono t8.size)
      have z9 := b9.size
      go_wp2_with fail
      refine (toIntS_any _ m _ (HR1.out.below t9 rfl) hl1).mono ?_
      rintro e W10 ⟨vy1, rfl, ny1, b10⟩
      have ow0 := owns_below ow0 b10
      have ox0 := owns_below ox0 b10
      have ox1 := owns_below ox1 b10
      have og0 := owns_below og0 b10
      have t10 := t9.trans (b10.mono t9.size)
      have z10 := b10.size
      have oy1 := ny1
      have ly1 := betw_of oy1
      go_wp2_with fail
      refine (eqIntS_c vx1 vy1 m _ (Rd.of_own ox1) (Rd.of_own oy1)).mono ?_
      rintro e W11 ⟨rfl, b11⟩
      have ow0 := owns_below ow0 b11
      have ox0 := owns_below ox0 b11
      have ox1 := owns_below ox1 b11
      have og0 := owns_below og0 b11
      have oy1 := owns_below oy1 b11
      have t11 := t10.trans (b11.mono t10.size)
      have z11 := b11.size
      go_wp2_with fail
      refine (markIntS_any _ (1) l.length vx0 _ _ (by omega) (by omega) (by have := b11.size; omega) ox0).mono ?_
      rintro e W12 ⟨rfl, ox0, b12⟩
      have ow0 := ow0.kept b12 (apart lw0 lx0 (by omega))
      have ox1 := ox1.kept b12 (apart lx1 lx0 (by omega))
      have og0 := og0.kept b12 (apart lg0 lx0 (by omega))
      have t12 := t11.trans (below_mark b12 lx0 (by first | exact Nat.le_refl _ | (have := t11.size; omega) | omega) t11.size)
      have z12 := b12.size
      go_wp2_with fail
      refine (markIntS_any _ (1 + l.length) m.length vx1 _ _ (by omega) (by omega) (by have := b12.size; omega) ox1).mono ?_
      rintro e W13 ⟨rfl, ox1, b13⟩
      have ow0 := ow0.kept b13 (apart lw0 lx1 (by omega))
      have og0 := og0.kept b13 (apart lg0 lx1 (by omega))
      have t13 := t12.trans (below_mark b13 lx1 (by first | exact Nat.le_refl _ | (have := t12.size; omega) | omega) t12.size)
      have z13 := b13.size
      go_wp2_with fail
      refine (eqIntS_c vg0 vw0 (jnR l m) _ (Rd.of_own og0) (Rd.of_own ow0)).mono ?_
      rintro e W14 ⟨rfl, b14⟩
      have ow0 := owns_below ow0 b14
      have og0 := owns_below og0 b14
      have t14 := t13.trans (b14.mono t13.size)
      have z14 := b14.size
      have hb0 : (jnR l m).length ≤ 8388608 := by (have := jnR_len l m; omega)
      go_wp2_with fail
      refine (markIntS_any _ 1 (jnR l m).length vg0 _ _ (by omega) (by omega) (by have := b14.size; omega) og0).mono ?_
      rintro e W15 ⟨rfl, og0, b15⟩
      have ow0 := ow0.kept b15 (apart lw0 lg0 (by omega))
      have t15 := t14.trans (below_mark b15 lg0 (by first | exact Nat.le_refl _ | (have := t14.size; omega) | omega) t14.size)
      have z15 := b15.size
      go_wp2_with fail
      refine (heldIntS_c 1 (jnR l m).length vg0 _ (by omega) (by omega) (Rd.of_own og0)).mono ?_
      rintro e W16 ⟨rfl, b16⟩
      have ow0 := owns_below ow0 b16
      have og0 := owns_below og0 b16
      have t16 := t15.trans (b16.mono t15.size)
      have z16 := b16.size
      go_wp2_with fail
      refine (toIntS_any _ l _ (HR0.out.below t16 rfl) hl0).mono ?_
      rintro e W17 ⟨vu0, rfl, nu0, b17⟩
      have ow0 := owns_below ow0 b17
      have og0 := owns_below og0 b17
      have t17 := t16.trans (b17.mono t16.size)
      have z17 := b17.size
      have ou0 := nu0
      have lu0 := betw_of ou0
      go_wp2_with fail
      refine (toIntS_any _ m _ (HR1.out.below t17 rfl) hl1).mono ?_
      rintro e W18 ⟨vu1, rfl, nu1, b18⟩
      have ow0 := owns_below ow0 b18
      have og0 := owns_below og0 b18
      have ou0 := owns_below ou0 b18
      have t18 := t17.trans (b18.mono t17.size)
      have z18 := b18.size
      have ou1 := nu1
      have lu1 := betw_of ou1
      go_wp2_with fail
      refine (implJoinProfiles_c vu0 l vu1 m _ (Rd.of_own ou0) hl0 (Rd.of_own ou1) (own_cap ou1) hl1).mono ?_
      rintro e W19 ⟨vh0, rfl, nh0, b19⟩
      have ow0 := owns_below ow0 b19
      have og0 := owns_below og0 b19
      have ou0 := owns_below ou0 b19
      have ou1 := owns_below ou1 b19
      have t19 := t18.trans (b19.mono t18.size)
      have z19 := b19.size
      have oh0 := nh0
      have lh0 := betw_of oh0
      go_wp2_with fail
      refine (eqIntS_c vh0 vw0 (jnR l m) _ (Rd.of_own oh0) (Rd.of_own ow0)).mono ?_
      rintro e W20 ⟨rfl, b20⟩
      have ow0 := owns_below ow0 b20
      have og0 := owns_below og0 b20
      have oh0 := owns_below oh0 b20
      have t20 := t19.trans (b20.mono t19.size)
      have z20 := b20.size
      go_wp2_with fail
      refine (heldIntS_c 1 (jnR l m).length vg0 _ (by omega) (by omega) (Rd.of_own og0)).mono ?_
      rintro e W21 ⟨rfl, b21⟩
      have ow0 := owns_below ow0 b21
      have og0 := owns_below og0 b21
      have oh0 := owns_below oh0 b21
      have t21 := t20.trans (b21.mono t20.size)
      go_wp2_with fail
      go_ret
      exact ⟨rfl, t21⟩
    · skip
      have hg0 : ¬ ((1048576 : Int) < (l.length : Int)) := by omega
      have hg1 : (1048576 : Int) < (m.length : Int) := by omega
      go_enter Try.func10, Try.ntmps10
      go_wp2
      go_ret
      exact ⟨rfl, Below.refl _ _⟩
  · skip
    have hg0 : (1048576 : Int) < (l.length : Int) := by omega
    go_enter Try.func10, Try.ntmps10
    go_wp2
    go_ret
    exact ⟨rfl, Below.refl _ _⟩
end Go.Proofs.Ytpggdlogefncpaa
