/- The law FnExactBoardText's walk. Condition: sizes. -/
import Derived.Test.YtinlcbljpclccaaDoorBoT
import Derived.Deep.DeepCutAuto
import Derived.Deep.RegionHeld3
namespace Go.Proofs.YtinlcbljpclccaaDoor
open Go.RowKit
set_option linter.unusedVariables false
set_option maxRecDepth 100000 in
set_option maxHeartbeats 4000000 in
theorem FnExactBoardText_walk (p : Plt) (w : World) (hw0 : p.wf) (ht : TabP w) :
    Calls Tryd.prog 4 #[.agg #[.int .i64 p.d, .int .i64 p.s, .int .i64 p.i, .int .i64 p.w, .bool p.l, .int .i64 p.g]] w fun e w' => e = .returned (.bool true) ∧ Below w.heap.size w w' := by
  have HTB : Hid (∀ W, Below w.heap.size w W → TabP W) := Lib.hid (fun W hW => ht.below hW)
  clear ht
  have Kp := Lib.hid (heap_alloc_new w (.cells #[.int .i64 p.d, .int .i64 p.s, .int .i64 p.i, .int .i64 p.w, .bool p.l, .int .i64 p.g] 42))
  have HT0 : Hid (Below w.heap.size w (w.alloc (.cells #[.int .i64 p.d, .int .i64 p.s, .int .i64 p.i, .int .i64 p.w, .bool p.l, .int .i64 p.g] 42))) := Lib.hid ((Below.refl _ _).alloc (by simp) _)
  have HSZ := Lib.hid HT0.out.size
  go_enter Tryd.func4, Tryd.ntmps4
  go_upto_region 1 with fail
  generalize w.alloc (.cells #[.int .i64 p.d, .int .i64 p.s, .int .i64 p.i, .int .i64 p.w, .bool p.l, .int .i64 p.g] 42) = W0 at *
  have t0 := Below.refl W0.heap.size W0
  obtain ⟨yp_0, yp_1, yp_2, yp_3, yp_4, yp_5⟩ := blk_cell6 Kp.out
  have hlp := blk_lt Kp.out
  go_wp2_with fail
  refine (toPlatform_any p _).mono ?_
  rintro e W1 ⟨rfl, b1⟩
  clear yp_0 yp_1 yp_2 yp_3 yp_4 yp_5 hlp
  have Kp := Lib.hid (blk_kept Kp.out b1)
  have t2 := t0.trans (b1.mono t0.size)
  go_wp2_with fail
  refine (specBoardText_c p _).mono ?_
  rintro e W3 ⟨rfl, b3⟩
  have Kp := Lib.hid (blk_kept Kp.out b3)
  have t4 := t2.trans (b3.mono t2.size)
  obtain ⟨yp_0, yp_1, yp_2, yp_3, yp_4, yp_5⟩ := blk_cell6 Kp.out
  have hlp := blk_lt Kp.out
  go_wp2_with fail
  refine (toPlatform_any p _).mono ?_
  rintro e W5 ⟨rfl, b5⟩
  clear yp_0 yp_1 yp_2 yp_3 yp_4 yp_5 hlp
  have Kp := Lib.hid (blk_kept Kp.out b5)
  have t6 := t4.trans (b5.mono t4.size)
  go_wp2_with fail
  refine (implBoardText_c p _ (HTB.out _ (HT0.out.trans (t6.mono HSZ.out)))).mono ?_
  rintro e W7 ⟨rfl, b7⟩
  have Kp := Lib.hid (blk_kept Kp.out b7)
  have t8 := t6.trans (b7.mono t6.size)
  go_wp2_with fail
  go_ret
  exact ⟨rfl, HT0.out.trans (t8.mono HT0.out.size)⟩
end Go.Proofs.YtinlcbljpclccaaDoor
