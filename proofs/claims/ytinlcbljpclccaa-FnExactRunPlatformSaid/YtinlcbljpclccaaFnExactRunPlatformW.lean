/- The law FnExactRunPlatform's walk. Condition: sizes. -/
import Derived.Test.YtinlcbljpclccaaBpC
import Derived.Test.YtinlcbljpclccaaBoH
import Derived.Test.YtinlcbljpclccaaBevA
import Derived.Test.YtinlcbljpclccaaLawK
import Derived.Deep.DeepCutAuto
import Derived.Deep.RegionHeld3
namespace Go.Proofs.Ytinlcbljpclccaa
open Go.RowKit
set_option linter.unusedVariables false
set_option maxRecDepth 100000 in
set_option maxHeartbeats 4000000 in
theorem FnExactRunPlatform_walk (p : Plt) (v1 : Value) (l : List Bev) (w : World) (hw0 : p.wf) (hr1 : Rs w v1 l.length (bevs l)) (hn1 : l.length ≤ maxLen) (hz1 : ∀ z ∈ l, z.wf) :
    Calls Try.prog 7 #[.agg #[.int .i64 p.d, .int .i64 p.s, .int .i64 p.i, .int .i64 p.w, .bool p.l, .int .i64 p.g], v1] w fun e w' => e = .returned (.bool true) ∧ Below w.heap.size w w' := by
  have HR1 := Lib.hid hr1
  have HZ := Lib.hid hz1
  clear hr1 hz1
  have hm1 := hn1
  unfold maxLen at hm1
  obtain ⟨as1, cs1, hv1⟩ := HR1.out.shape
  subst hv1
  have Kp := Lib.hid (heap_alloc_new w (.cells #[.int .i64 p.d, .int .i64 p.s, .int .i64 p.i, .int .i64 p.w, .bool p.l, .int .i64 p.g] 48))
  have HT0 : Hid (Below w.heap.size w (w.alloc (.cells #[.int .i64 p.d, .int .i64 p.s, .int .i64 p.i, .int .i64 p.w, .bool p.l, .int .i64 p.g] 48))) := Lib.hid ((Below.refl _ _).alloc (by simp) _)
  have HR1 := Lib.hid (HR1.out.below HT0.out rfl)
  by_cases hsz : l.length + totBev l ≤ 1048576
  · have hs1 : ((l.length + totBev l : Nat) : Int) ≤ 1048576 := by omega
    have h1 : l.length ≤ 1048576 := by omega
    have hs2 : ¬ (1048576 - ((l.length + totBev l : Nat) : Int) < 0) := by omega
    have hs3 : ¬ (1048576 - ((l.length : Int) + (totBev l : Int)) < 0) := by omega
    go_enter Try.func7, Try.ntmps7
    go_upto_region 1 with fail
    generalize w.alloc (.cells #[.int .i64 p.d, .int .i64 p.s, .int .i64 p.i, .int .i64 p.w, .bool p.l, .int .i64 p.g] 48) = W0 at *
    have t0 := Below.refl W0.heap.size W0
    go_wp2_with fail
    refine (szBoardEventS_ok _ l _ _ (HR1.out.below t0 rfl) (by omega) hs1).mono ?_
    rintro e W1 ⟨rfl, b1⟩
    have Kp := Lib.hid (blk_kept Kp.out b1)
    have t2 := t0.trans (b1.mono t0.size)
    obtain ⟨yp_0, yp_1, yp_2, yp_3, yp_4, yp_5⟩ := blk_cell6 Kp.out
    have hlp := blk_lt Kp.out
    go_wp2_with fail
    refine (toPlatform_any p _).mono ?_
    rintro e W3 ⟨rfl, b3⟩
    clear yp_0 yp_1 yp_2 yp_3 yp_4 yp_5 hlp
    have Kp := Lib.hid (blk_kept Kp.out b3)
    have t4 := t2.trans (b3.mono t2.size)
    go_wp2_with fail
    refine (toBoardEventS_any _ l _ (HR1.out.below t4 rfl) h1).mono ?_
    rintro e W5 ⟨vs, rfl, ns, b5⟩
    have Kp := Lib.hid (blk_kept Kp.out b5)
    have t6 := t4.trans (b5.mono t4.size)
    have os := ns
    have ls := betw_of os
    go_wp2_with fail
    refine (specRunPlatform_c p vs l _ (Rs.of_own os) hn1).mono ?_
    rintro e W7 ⟨rfl, b7⟩
    have Kp := Lib.hid (blk_kept Kp.out b7)
    have os := owns_below os b7
    have t8 := t6.trans (b7.mono t6.size)
    have Kp := Lib.hid (blk_stay (o' := .cells #[.int .i64 (rpP p l).d, .int .i64 (rpP p l).s, .int .i64 (rpP p l).i, .int .i64 (rpP p l).w, .bool (rpP p l).l, .int .i64 (rpP p l).g] 25) Kp.out)
    have os := os.alloc (.cells #[.int .i64 (rpP p l).d, .int .i64 (rpP p l).s, .int .i64 (rpP p l).i, .int .i64 (rpP p l).w, .bool (rpP p l).l, .int .i64 (rpP p l).g] 25)
    have Kw := Lib.hid (heap_alloc_new W7 (.cells #[.int .i64 (rpP p l).d, .int .i64 (rpP p l).s, .int .i64 (rpP p l).i, .int .i64 (rpP p l).w, .bool (rpP p l).l, .int .i64 (rpP p l).g] 25))
    have t9 := below_al t8 (.cells #[.int .i64 (rpP p l).d, .int .i64 (rpP p l).s, .int .i64 (rpP p l).i, .int .i64 (rpP p l).w, .bool (rpP p l).l, .int .i64 (rpP p l).g] 25)
    go_upto_region 6 with fail
    generalize W7.alloc (.cells #[.int .i64 (rpP p l).d, .int .i64 (rpP p l).s, .int .i64 (rpP p l).i, .int .i64 (rpP p l).w, .bool (rpP p l).l, .int .i64 (rpP p l).g] 25) = W9 at *
    obtain ⟨Pw, hPw⟩ : ∃ P, P = W7.heap.size := ⟨_, rfl⟩
    rw [← hPw] at Kw ⊢
    clear hPw
    go_wp2_with fail
    refine (toBoardEventS_any _ l _ (HR1.out.below t9 rfl) h1).mono ?_
    rintro e W10 ⟨vx, rfl, nx, b10⟩
    have Kp := Lib.hid (blk_kept Kp.out b10)
    have Kw := Lib.hid (blk_kept Kw.out b10)
    have os := owns_below os b10
    have t11 := t9.trans (b10.mono t9.size)
    have ox := nx
    have lx := betw_of ox
    obtain ⟨yp_0, yp_1, yp_2, yp_3, yp_4, yp_5⟩ := blk_cell6 Kp.out
    have hlp := blk_lt Kp.out
    go_wp2_with fail
    refine (toPlatform_any p _).mono ?_
    rintro e W12 ⟨rfl, b12⟩
    clear yp_0 yp_1 yp_2 yp_3 yp_4 yp_5 hlp
    have Kp := Lib.hid (blk_kept Kp.out b12)
    have Kw := Lib.hid (blk_kept Kw.out b12)
    have os := owns_below os b12
    have ox := owns_below ox b12
    have t13 := t11.trans (b12.mono t11.size)
    go_wp2_with fail
    refine (implRunPlatform_c p vx l _ (Rs.of_own ox) hn1).mono ?_
    rintro e W14 ⟨rfl, b14⟩
    have Kp := Lib.hid (blk_kept Kp.out b14)
    have Kw := Lib.hid (blk_kept Kw.out b14)
    have os := owns_below os b14
    have ox := owns_below ox b14
    have t15 := t13.trans (b14.mono t13.size)
    have Kp := Lib.hid (blk_stay (o' := .cells #[.int .i64 (rpP p l).d, .int .i64 (rpP p l).s, .int .i64 (rpP p l).i, .int .i64 (rpP p l).w, .bool (rpP p l).l, .int .i64 (rpP p l).g] 25) Kp.out)
    have Kw := Lib.hid (blk_stay (o' := .cells #[.int .i64 (rpP p l).d, .int .i64 (rpP p l).s, .int .i64 (rpP p l).i, .int .i64 (rpP p l).w, .bool (rpP p l).l, .int .i64 (rpP p l).g] 25) Kw.out)
    have os := os.alloc (.cells #[.int .i64 (rpP p l).d, .int .i64 (rpP p l).s, .int .i64 (rpP p l).i, .int .i64 (rpP p l).w, .bool (rpP p l).l, .int .i64 (rpP p l).g] 25)
    have ox := ox.alloc (.cells #[.int .i64 (rpP p l).d, .int .i64 (rpP p l).s, .int .i64 (rpP p l).i, .int .i64 (rpP p l).w, .bool (rpP p l).l, .int .i64 (rpP p l).g] 25)
    have Kg := Lib.hid (heap_alloc_new W14 (.cells #[.int .i64 (rpP p l).d, .int .i64 (rpP p l).s, .int .i64 (rpP p l).i, .int .i64 (rpP p l).w, .bool (rpP p l).l, .int .i64 (rpP p l).g] 25))
    have t16 := below_al t15 (.cells #[.int .i64 (rpP p l).d, .int .i64 (rpP p l).s, .int .i64 (rpP p l).i, .int .i64 (rpP p l).w, .bool (rpP p l).l, .int .i64 (rpP p l).g] 25)
    go_upto_region 8 with fail
    generalize W14.alloc (.cells #[.int .i64 (rpP p l).d, .int .i64 (rpP p l).s, .int .i64 (rpP p l).i, .int .i64 (rpP p l).w, .bool (rpP p l).l, .int .i64 (rpP p l).g] 25) = W16 at *
    obtain ⟨Pg, hPg⟩ : ∃ P, P = W14.heap.size := ⟨_, rfl⟩
    rw [← hPg] at Kg ⊢
    clear hPg
    obtain ⟨yg_0, yg_1, yg_2, yg_3, yg_4, yg_5⟩ := blk_cell6 Kg.out
    obtain ⟨yw_0, yw_1, yw_2, yw_3, yw_4, yw_5⟩ := blk_cell6 Kw.out
    have hlg := blk_lt Kg.out
    have hlw := blk_lt Kw.out
    go_wp2_with fail
    refine (eqPlatform_same (rpP p l) _).mono ?_
    rintro e W17 ⟨rfl, b17⟩
    clear yg_0 yg_1 yg_2 yg_3 yg_4 yg_5 hlg
    clear yw_0 yw_1 yw_2 yw_3 yw_4 yw_5 hlw
    have Kp := Lib.hid (blk_kept Kp.out b17)
    have Kw := Lib.hid (blk_kept Kw.out b17)
    have Kg := Lib.hid (blk_kept Kg.out b17)
    have os := owns_below os b17
    have ox := owns_below ox b17
    have t18 := t16.trans (b17.mono t16.size)
    go_wp2_with fail
    refine (toBoardEventS_any _ l _ (HR1.out.below t18 rfl) h1).mono ?_
    rintro e W19 ⟨vy, rfl, ny, b19⟩
    have Kp := Lib.hid (blk_kept Kp.out b19)
    have Kw := Lib.hid (blk_kept Kw.out b19)
    have Kg := Lib.hid (blk_kept Kg.out b19)
    have os := owns_below os b19
    have ox := owns_below ox b19
    have t20 := t18.trans (b19.mono t18.size)
    have oy := ny
    have ly := betw_of oy
    go_wp2_with fail
    refine (eqBoardEventS_same vx vy l _ (Rs.of_own ox) (Rs.of_own oy)).mono ?_
    rintro e W21 ⟨rfl, b21⟩
    have Kp := Lib.hid (blk_kept Kp.out b21)
    have Kw := Lib.hid (blk_kept Kw.out b21)
    have Kg := Lib.hid (blk_kept Kg.out b21)
    have os := owns_below os b21
    have ox := owns_below ox b21
    have oy := owns_below oy b21
    have t22 := t20.trans (b21.mono t20.size)
    go_wp2_with fail
    go_ret
    exact ⟨rfl, HT0.out.trans (t22.mono HT0.out.size)⟩
  · have hs1 : (1048576 : Int) < ((l.length + totBev l : Nat) : Int) := by omega
    go_enter Try.func7, Try.ntmps7
    go_upto_region 1 with fail
    generalize w.alloc (.cells #[.int .i64 p.d, .int .i64 p.s, .int .i64 p.i, .int .i64 p.w, .bool p.l, .int .i64 p.g] 48) = W0 at *
    have t0 := Below.refl W0.heap.size W0
    go_wp2_with fail
    refine (szBoardEventS_big _ l _ _ (HR1.out.below t0 rfl) (by omega) (by omega) hn1 (fun z hz => (HZ.out z hz).1) hs1).mono ?_
    rintro e W23 ⟨rfl, b23⟩
    have Kp := Lib.hid (blk_kept Kp.out b23)
    have t24 := t0.trans (b23.mono t0.size)
    go_wp2_with fail
    go_ret
    exact ⟨rfl, HT0.out.trans (t24.mono HT0.out.size)⟩
end Go.Proofs.Ytinlcbljpclccaa
