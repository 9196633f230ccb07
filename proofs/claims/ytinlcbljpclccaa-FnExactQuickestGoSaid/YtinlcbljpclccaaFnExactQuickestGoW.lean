/- The law FnExactQuickestGo's walk. Condition: sizes. -/
import Derived.Test.YtinlcbljpclccaaBpF
import Derived.Test.YtinlcbljpclccaaBoJ
import Derived.Test.YtinlcbljpclccaaBevM
import Derived.Deep.DeepCutAuto
import Derived.Deep.RegionHeld3
namespace Go.Proofs.Ytinlcbljpclccaa
open Go.RowKit
set_option linter.unusedVariables false
set_option maxRecDepth 100000 in
set_option maxHeartbeats 4000000 in
theorem FnExactQuickestGo_walk (p : Plt) (w : World) (hw0 : p.wf) :
    Calls Try.prog 10 #[.agg #[.int .i64 p.d, .int .i64 p.s, .int .i64 p.i, .int .i64 p.w, .bool p.l, .int .i64 p.g]] w fun e w' => e = .returned (.bool true) ∧ Below w.heap.size w w' := by
  have HL : Hid ((qgL p).length ≤ 5) := Lib.hid (qgL_len p)
  have Kp := Lib.hid (heap_alloc_new w (.cells #[.int .i64 p.d, .int .i64 p.s, .int .i64 p.i, .int .i64 p.w, .bool p.l, .int .i64 p.g] 48))
  have HT0 : Hid (Below w.heap.size w (w.alloc (.cells #[.int .i64 p.d, .int .i64 p.s, .int .i64 p.i, .int .i64 p.w, .bool p.l, .int .i64 p.g] 48))) := Lib.hid ((Below.refl _ _).alloc (by simp) _)
  go_enter Try.func10, Try.ntmps10
  go_upto_region 1 with fail
  generalize w.alloc (.cells #[.int .i64 p.d, .int .i64 p.s, .int .i64 p.i, .int .i64 p.w, .bool p.l, .int .i64 p.g] 48) = W0 at *
  have t0 := Below.refl W0.heap.size W0
  obtain ⟨yp_0, yp_1, yp_2, yp_3, yp_4, yp_5⟩ := blk_cell6 Kp.out
  have hlp := blk_lt Kp.out
  go_wp2_with fail
  refine (toPlatform_any p _).mono ?_
  rintro e W1 ⟨rfl, b1⟩
  clear yp_0 yp_1 yp_2 yp_3 yp_4 yp_5 hlp
  have Kp := Lib.hid (blk_kept Kp.out b1)
  have t2 := t0.trans (b1.mono t0.size)
  have z2 := b1.size
  go_wp2_with fail
  refine (specQuickestGo_c p _).mono ?_
  rintro e W3 ⟨vw, rfl, nw, b3⟩
  have Kp := Lib.hid (blk_kept Kp.out b3)
  have t4 := t2.trans (b3.mono t2.size)
  have z4 := b3.size
  have ow := nw
  have lw := betw_of ow
  obtain ⟨yp_0, yp_1, yp_2, yp_3, yp_4, yp_5⟩ := blk_cell6 Kp.out
  have hlp := blk_lt Kp.out
  go_wp2_with fail
  refine (toPlatform_any p _).mono ?_
  rintro e W5 ⟨rfl, b5⟩
  clear yp_0 yp_1 yp_2 yp_3 yp_4 yp_5 hlp
  have Kp := Lib.hid (blk_kept Kp.out b5)
  have ow := owns_below ow b5
  have t6 := t4.trans (b5.mono t4.size)
  have z6 := b5.size
  go_wp2_with fail
  refine (implQuickestGo_c p _).mono ?_
  rintro e W7 ⟨vg, rfl, ng, b7⟩
  have Kp := Lib.hid (blk_kept Kp.out b7)
  have ow := owns_below ow b7
  have t8 := t6.trans (b7.mono t6.size)
  have z8 := b7.size
  have og := ng
  have lg := betw_of og
  go_wp2_with fail
  refine (eqBoardEventS_same vg vw (qgL p) _ (Rs.of_own og) (Rs.of_own ow)).mono ?_
  rintro e W9 ⟨rfl, b9⟩
  have Kp := Lib.hid (blk_kept Kp.out b9)
  have ow := owns_below ow b9
  have og := owns_below og b9
  have t10 := t8.trans (b9.mono t8.size)
  have z10 := b9.size
  go_wp2_with fail
  refine (markBoardEventS_any _ 1 (qgL p).length vg _ _ (by omega) (by have := HL.out; omega) (by first | exact og.base | (have := lg; omega) | (have := og.1; omega)) og).mono ?_
  rintro e W11 ⟨rfl, pg, g11⟩
  have ow := ow.kept g11 (apart lw lg (by omega))
  have Kp := Lib.hid ((g11.block _ (blk_lt Kp.out) (fun e => own_ne og Kp.out (by decide) e.symm)).trans Kp.out)
  have t12 := t10.trans (below_mark g11 lg (by first | exact Nat.le_refl _ | (have := t10.size; omega) | omega) t10.size)
  have og := pg
  go_wp2_with fail
  refine (heldBoardEventS_c 1 (qgL p).length vg _ (by omega) (by have := HL.out; omega) (Rs.of_own og)).mono ?_
  rintro e W13 ⟨rfl, b13⟩
  have Kp := Lib.hid (blk_kept Kp.out b13)
  have ow := owns_below ow b13
  have og := owns_below og b13
  have t14 := t12.trans (b13.mono t12.size)
  have z14 := b13.size
  obtain ⟨yp_0, yp_1, yp_2, yp_3, yp_4, yp_5⟩ := blk_cell6 Kp.out
  have hlp := blk_lt Kp.out
  go_wp2_with fail
  refine (toPlatform_any p _).mono ?_
  rintro e W15 ⟨rfl, b15⟩
  clear yp_0 yp_1 yp_2 yp_3 yp_4 yp_5 hlp
  have Kp := Lib.hid (blk_kept Kp.out b15)
  have ow := owns_below ow b15
  have og := owns_below og b15
  have t16 := t14.trans (b15.mono t14.size)
  have z16 := b15.size
  go_wp2_with fail
  refine (implQuickestGo_c p _).mono ?_
  rintro e W17 ⟨vh, rfl, nh, b17⟩
  have Kp := Lib.hid (blk_kept Kp.out b17)
  have ow := owns_below ow b17
  have og := owns_below og b17
  have t18 := t16.trans (b17.mono t16.size)
  have z18 := b17.size
  have oh := nh
  have lh := betw_of oh
  go_wp2_with fail
  refine (eqBoardEventS_same vh vw (qgL p) _ (Rs.of_own oh) (Rs.of_own ow)).mono ?_
  rintro e W19 ⟨rfl, b19⟩
  have Kp := Lib.hid (blk_kept Kp.out b19)
  have ow := owns_below ow b19
  have og := owns_below og b19
  have oh := owns_below oh b19
  have t20 := t18.trans (b19.mono t18.size)
  have z20 := b19.size
  go_wp2_with fail
  refine (heldBoardEventS_c 1 (qgL p).length vg _ (by omega) (by have := HL.out; omega) (Rs.of_own og)).mono ?_
  rintro e W21 ⟨rfl, b21⟩
  have Kp := Lib.hid (blk_kept Kp.out b21)
  have ow := owns_below ow b21
  have og := owns_below og b21
  have oh := owns_below oh b21
  have t22 := t20.trans (b21.mono t20.size)
  have z22 := b21.size
  go_wp2_with fail
  go_ret
  exact ⟨rfl, HT0.out.trans (t22.mono HT0.out.size)⟩
end Go.Proofs.Ytinlcbljpclccaa
