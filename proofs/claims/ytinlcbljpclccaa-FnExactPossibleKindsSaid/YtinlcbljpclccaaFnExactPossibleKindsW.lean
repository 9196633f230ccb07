/- The law FnExactPossibleKinds's walk. Condition: sizes. -/
import Derived.Test.YtinlcbljpclccaaBpE
import Derived.Test.YtinlcbljpclccaaStrS
import Derived.Deep.DeepCutAuto
import Derived.Deep.RegionHeld3
namespace Go.Proofs.Ytinlcbljpclccaa
open Go.RowKit
set_option linter.unusedVariables false
set_option maxRecDepth 100000 in
set_option maxHeartbeats 4000000 in
theorem FnExactPossibleKinds_walk (p : Plt) (w : World) (hw0 : p.wf) :
    Calls Try.prog 8 #[.agg #[.int .i64 p.d, .int .i64 p.s, .int .i64 p.i, .int .i64 p.w, .bool p.l, .int .i64 p.g]] w fun e w' => e = .returned (.bool true) ∧ Below w.heap.size w w' := by
  have HL : Hid ((pkL p).length ≤ 8) := Lib.hid (pkL_len p)
  have Kp := Lib.hid (heap_alloc_new w (.cells #[.int .i64 p.d, .int .i64 p.s, .int .i64 p.i, .int .i64 p.w, .bool p.l, .int .i64 p.g] 48))
  have HT0 : Hid (Below w.heap.size w (w.alloc (.cells #[.int .i64 p.d, .int .i64 p.s, .int .i64 p.i, .int .i64 p.w, .bool p.l, .int .i64 p.g] 48))) := Lib.hid ((Below.refl _ _).alloc (by simp) _)
  go_enter Try.func8, Try.ntmps8
  go_upto_region 1 with fail
  generalize w.alloc (.cells #[.int .i64 p.d, .int .i64 p.s, .int .i64 p.i, .int .i64 p.w, .bool p.l, .int .i64 p.g] 48) = W0 at *
  have t0 := Below.refl W0.heap.size W0
  obtain ⟨yp_0, yp_1, yp_2, yp_3, yp_4, yp_5⟩ := blk_cell6 Kp.out
  have hlp := blk_lt Kp.out
  go_wp2_with fail
  refine (toPlatform_any p _).mono ?_
  rintro e W1 ⟨rfl, b1⟩
  clear yp_0 yp_1 yp_2 yp_3 yp_4 yp_5 hlp
  have Kp := Lib.hid (blk_kept Kp.out b1)
  have t2 := t0.trans (b1.mono t0.size)
  go_wp2_with fail
  refine (specPossibleKinds_c p _).mono ?_
  rintro e W3 ⟨vw, rfl, nw, b3⟩
  have Kp := Lib.hid (blk_kept Kp.out b3)
  have t4 := t2.trans (b3.mono t2.size)
  have ow := nw
  obtain ⟨yp_0, yp_1, yp_2, yp_3, yp_4, yp_5⟩ := blk_cell6 Kp.out
  have hlp := blk_lt Kp.out
  go_wp2_with fail
  refine (toPlatform_any p _).mono ?_
  rintro e W5 ⟨rfl, b5⟩
  clear yp_0 yp_1 yp_2 yp_3 yp_4 yp_5 hlp
  have Kp := Lib.hid (blk_kept Kp.out b5)
  have ow := owns_below ow b5
  have t6 := t4.trans (b5.mono t4.size)
  have tB := Below.refl W5.heap.size W5
  have RW := Lib.hid (Rd.of_own ow)
  have KB := Lib.hid Kp.out
  have hszB := t6.size
  go_wp2_with fail
  refine (implPossibleKinds_c p _).mono ?_
  rintro e W7 ⟨vg, rfl, ng, b7⟩
  have Kp := Lib.hid (blk_kept Kp.out b7)
  have t8 := t6.trans (b7.mono t6.size)
  have og := ng
  have tB := tB.trans (b7.mono tB.size)
  go_wp2_with fail
  refine (eqStringS_same vg vw (pkL p) _ (Rd.of_own og) (RW.out.below tB rfl)).mono ?_
  rintro e W9 ⟨rfl, m9, hW9⟩
  have b9 : Below W7.heap.size W7 W9 := by rw [hW9]; exact below_drewN (Below.refl _ _) _
  clear hW9
  have Kp := Lib.hid (blk_kept Kp.out b9)
  have og := owns_below og b9
  have t10 := t8.trans (b9.mono t8.size)
  have tB := tB.trans (b9.mono tB.size)
  go_wp2_with fail
  refine (markStringS_any W5.heap.size 1 (pkL p).length vg _ _ (by omega) (by have := HL.out; omega) tB.size og).mono ?_
  rintro e W11 ⟨rfl, og, b11⟩
  have tB := tB.trans b11
  have Kp := Lib.hid (blk_keep KB.out tB (blk_lt KB.out))
  have t12 := t6.trans (tB.mono t6.size)
  go_wp2_with fail
  refine (heldStringS_any 1 (pkL p).length vg _ (by omega) (by have := HL.out; omega) (Rd.of_own og)).mono ?_
  rintro e W13 ⟨rfl, b13⟩
  have Kp := Lib.hid (blk_kept Kp.out b13)
  have og := owns_below og b13
  have t14 := t12.trans (b13.mono t12.size)
  have tB := tB.trans (b13.mono tB.size)
  obtain ⟨yp_0, yp_1, yp_2, yp_3, yp_4, yp_5⟩ := blk_cell6 Kp.out
  have hlp := blk_lt Kp.out
  go_wp2_with fail
  refine (toPlatform_any p _).mono ?_
  rintro e W15 ⟨rfl, b15⟩
  clear yp_0 yp_1 yp_2 yp_3 yp_4 yp_5 hlp
  have Kp := Lib.hid (blk_kept Kp.out b15)
  have og := owns_below og b15
  have t16 := t14.trans (b15.mono t14.size)
  have tB := tB.trans (b15.mono tB.size)
  go_wp2_with fail
  refine (implPossibleKinds_c p _).mono ?_
  rintro e W17 ⟨vh, rfl, nh, b17⟩
  have Kp := Lib.hid (blk_kept Kp.out b17)
  have og := owns_below og b17
  have t18 := t16.trans (b17.mono t16.size)
  have tB := tB.trans (b17.mono tB.size)
  go_wp2_with fail
  refine (eqStringS_same vh vw (pkL p) _ (Rd.of_own nh) (RW.out.below tB rfl)).mono ?_
  rintro e W19 ⟨rfl, m19, hW19⟩
  have b19 : Below W17.heap.size W17 W19 := by rw [hW19]; exact below_drewN (Below.refl _ _) _
  clear hW19
  have Kp := Lib.hid (blk_kept Kp.out b19)
  have og := owns_below og b19
  have t20 := t18.trans (b19.mono t18.size)
  have tB := tB.trans (b19.mono tB.size)
  go_wp2_with fail
  refine (heldStringS_any 1 (pkL p).length vg _ (by omega) (by have := HL.out; omega) (Rd.of_own og)).mono ?_
  rintro e W21 ⟨rfl, b21⟩
  have Kp := Lib.hid (blk_kept Kp.out b21)
  have og := owns_below og b21
  have t22 := t20.trans (b21.mono t20.size)
  go_wp2_with fail
  go_ret
  exact ⟨rfl, HT0.out.trans (t22.mono HT0.out.size)⟩
end Go.Proofs.Ytinlcbljpclccaa
