/- The law FnExactShortestTo's walk. Condition: sizes. -/
import Derived.Test.YtpggdlogefncpaaProfS
import Derived.Test.YtpggdlogefncpaaIntC
namespace Go.Proofs.Ytpggdlogefncpaa
open Go.RowKit
set_option linter.unusedVariables false
set_option maxRecDepth 100000 in
set_option maxHeartbeats 4000000 in
theorem FnExactShortestTo_walk (f t a : Int) (w : World) (hwf : (Lit.int .i64 f).wf = true) (hwt : (Lit.int .i64 t).wf = true) (hwa : (Lit.int .i64 a).wf = true) :
    Calls Try.prog 8 #[.int .i64 f, .int .i64 t, .int .i64 a] w fun e w' => e = .returned (.bool true) ∧ Below w.heap.size w w' := by
  have HWf := Lib.hid hwf
  have HWt := Lib.hid hwt
  have HWa := Lib.hid hwa
  clear hwf hwt hwa
  have t0 := Below.refl w.heap.size w
  go_enter Try.func8, Try.ntmps8
  go_wp2_with fail
  refine (specShortestTo_c f t a _ ).mono ?_
  rintro e W1 ⟨vw0, rfl, nw0, b1⟩
  have t2 := t0.trans (b1.mono t0.size)
  have z2 := b1.size
  have ow0 := nw0
  obtain ⟨adw0, cpw0, rfl⟩ := (Rs.of_own ow0).shape
  have lw0 := betw_of ow0
  go_wp2_with fail
  refine (implShortestTo_c f t a _ ).mono ?_
  rintro e W3 ⟨vg0, rfl, ng0, b3⟩
  have ow0 := owns_below ow0 b3
  have t4 := t2.trans (b3.mono t2.size)
  have z4 := b3.size
  have og0 := ng0
  obtain ⟨adg0, cpg0, rfl⟩ := (Rs.of_own og0).shape
  have lg0 := betw_of og0
  go_wp2_with fail
  refine (eqIntS_c (.slice adg0 ((stR f t a).length) cpg0) (.slice adw0 ((stR f t a).length) cpw0) (stR f t a) _ (Rd.of_own og0) (Rd.of_own ow0)).mono ?_
  rintro e W5 ⟨rfl, b5⟩
  have ow0 := owns_below ow0 b5
  have og0 := owns_below og0 b5
  have t6 := t4.trans (b5.mono t4.size)
  have z6 := b5.size
  have hb0 : (stR f t a).length ≤ 1048576 := by have := stR_len f t a; omega
  go_wp2_with fail
  refine (markIntS_any _ 1 ((stR f t a).length) (.slice adg0 ((stR f t a).length) cpg0) _ _ (by omega) (by omega) (by have := t6.size; omega) og0).mono ?_
  rintro e W7 ⟨rfl, pg0, g7⟩
  have ow0 := ow0.kept g7 (apart lw0 lg0 (by omega))
  have t8 := t6.trans (below_mark g7 lg0 (by first | exact Nat.le_refl _ | (have := t6.size; omega) | omega) t6.size)
  have z8 := g7.size
  have og0 := pg0
  go_wp2_with fail
  refine (heldIntS_c 1 (stR f t a).length (.slice adg0 ((stR f t a).length) cpg0) _ (by omega) (by omega) (Rd.of_own og0)).mono ?_
  rintro e W9 ⟨rfl, b9⟩
  have ow0 := owns_below ow0 b9
  have og0 := owns_below og0 b9
  have t10 := t8.trans (b9.mono t8.size)
  have z10 := b9.size
  go_wp2_with fail
  refine (implShortestTo_c f t a _ ).mono ?_
  rintro e W11 ⟨vh0, rfl, nh0, b11⟩
  have ow0 := owns_below ow0 b11
  have og0 := owns_below og0 b11
  have t12 := t10.trans (b11.mono t10.size)
  have z12 := b11.size
  have oh0 := nh0
  obtain ⟨adh0, cph0, rfl⟩ := (Rs.of_own oh0).shape
  have lh0 := betw_of oh0
  go_wp2_with fail
  refine (eqIntS_c (.slice adh0 ((stR f t a).length) cph0) (.slice adw0 ((stR f t a).length) cpw0) (stR f t a) _ (Rd.of_own oh0) (Rd.of_own ow0)).mono ?_
  rintro e W13 ⟨rfl, b13⟩
  have ow0 := owns_below ow0 b13
  have og0 := owns_below og0 b13
  have oh0 := owns_below oh0 b13
  have t14 := t12.trans (b13.mono t12.size)
  have z14 := b13.size
  go_wp2_with fail
  refine (heldIntS_c 1 (stR f t a).length (.slice adg0 ((stR f t a).length) cpg0) _ (by omega) (by omega) (Rd.of_own og0)).mono ?_
  rintro e W15 ⟨rfl, b15⟩
  have ow0 := owns_below ow0 b15
  have og0 := owns_below og0 b15
  have oh0 := owns_below oh0 b15
  have t16 := t14.trans (b15.mono t14.size)
  have z16 := b15.size
  go_wp2_with fail
  go_ret
  exact ⟨rfl, t16⟩
end Go.Proofs.Ytpggdlogefncpaa
