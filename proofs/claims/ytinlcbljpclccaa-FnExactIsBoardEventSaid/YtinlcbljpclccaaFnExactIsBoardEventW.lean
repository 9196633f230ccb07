/- The law FnExactIsBoardEvent's walk. Condition: sizes. -/
import Derived.Test.YtinlcbljpclccaaBpF
import Derived.Test.YtinlcbljpclccaaBoE
import Derived.Deep.DeepCutAuto
import Derived.Deep.RegionHeld3
namespace Go.Proofs.Ytinlcbljpclccaa
open Go.RowKit
set_option linter.unusedVariables false
set_option maxRecDepth 100000 in
set_option maxHeartbeats 4000000 in
theorem FnExactIsBoardEvent_walk (e : Bev) (w : World) (hw0 : e.wf) :
    Calls Try.prog 5 #[.agg #[.string e.k, .int .i64 e.c]] w fun e w' => e = .returned (.bool true) ∧ Below w.heap.size w w' := by
  have Ke := Lib.hid (heap_alloc_new w (.cells #[.string e.k, .int .i64 e.c] 51))
  have HT0 : Hid (Below w.heap.size w (w.alloc (.cells #[.string e.k, .int .i64 e.c] 51))) := Lib.hid ((Below.refl _ _).alloc (by simp) _)
  have HW0 := Lib.hid hw0
  clear hw0
  by_cases hsz : e.k.size ≤ 1048576
  · have hs1 : (e.txt : Int) ≤ 1048576 := by unfold Bev.txt; omega
    have hs2 : ¬ (1048576 - (e.txt : Int) < 0) := by omega
    go_enter Try.func5, Try.ntmps5
    go_upto_region 1 with fail
    generalize w.alloc (.cells #[.string e.k, .int .i64 e.c] 51) = W0 at *
    have t0 := Below.refl W0.heap.size W0
    obtain ⟨ye_0, ye_1⟩ := blk_cell2 Ke.out
    have hle := blk_lt Ke.out
    go_wp2_with fail
    refine (szBoardEvent_ok e _ _ (by omega) hs1).mono ?_
    rintro e W1 ⟨rfl, b1⟩
    clear ye_0 ye_1 hle
    have Ke := Lib.hid (blk_kept Ke.out b1)
    have t2 := t0.trans (b1.mono t0.size)
    obtain ⟨ye_0, ye_1⟩ := blk_cell2 Ke.out
    have hle := blk_lt Ke.out
    go_wp2_with fail
    refine (toBoardEvent_any e _).mono ?_
    rintro e W3 ⟨rfl, b3⟩
    clear ye_0 ye_1 hle
    have Ke := Lib.hid (blk_kept Ke.out b3)
    have t4 := t2.trans (b3.mono t2.size)
    go_wp2_with fail
    refine (specIsBoardEvent_c e _).mono ?_
    rintro e W5 ⟨rfl, b5⟩
    have Ke := Lib.hid (blk_kept Ke.out b5)
    have t6 := t4.trans (b5.mono t4.size)
    obtain ⟨ye_0, ye_1⟩ := blk_cell2 Ke.out
    have hle := blk_lt Ke.out
    go_wp2_with fail
    refine (toBoardEvent_any e _).mono ?_
    rintro e W7 ⟨rfl, b7⟩
    clear ye_0 ye_1 hle
    have Ke := Lib.hid (blk_kept Ke.out b7)
    have t8 := t6.trans (b7.mono t6.size)
    go_wp2_with fail
    refine (implIsBoardEvent_c e _).mono ?_
    rintro e W9 ⟨rfl, b9⟩
    have Ke := Lib.hid (blk_kept Ke.out b9)
    have t10 := t8.trans (b9.mono t8.size)
    go_wp2_with fail
    go_ret
    exact ⟨rfl, HT0.out.trans (t10.mono HT0.out.size)⟩
  · have hs1 : (1048576 : Int) < (e.txt : Int) := by unfold Bev.txt; omega
    go_enter Try.func5, Try.ntmps5
    go_upto_region 1 with fail
    generalize w.alloc (.cells #[.string e.k, .int .i64 e.c] 51) = W0 at *
    have t0 := Below.refl W0.heap.size W0
    obtain ⟨ye_0, ye_1⟩ := blk_cell2 Ke.out
    have hle := blk_lt Ke.out
    go_wp2_with fail
    refine (szBoardEvent_big e _ _ (by omega) (by omega) HW0.out.1 hs1).mono ?_
    rintro e W11 ⟨rfl, b11⟩
    clear ye_0 ye_1 hle
    have Ke := Lib.hid (blk_kept Ke.out b11)
    have t12 := t0.trans (b11.mono t0.size)
    go_wp2_with fail
    go_ret
    exact ⟨rfl, HT0.out.trans (t12.mono HT0.out.size)⟩
end Go.Proofs.Ytinlcbljpclccaa
