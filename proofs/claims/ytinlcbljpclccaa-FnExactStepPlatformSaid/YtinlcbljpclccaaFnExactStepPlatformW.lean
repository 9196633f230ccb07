/- The law FnExactStepPlatform's walk. Condition: sizes. -/
import Derived.Test.YtinlcbljpclccaaBpB
import Derived.Test.YtinlcbljpclccaaBoF
import Derived.Test.YtinlcbljpclccaaBpC
import Derived.Test.YtinlcbljpclccaaLawK
import Derived.Deep.DeepCutAuto
import Derived.Deep.RegionHeld3
namespace Go.Proofs.Ytinlcbljpclccaa
open Go.RowKit
set_option linter.unusedVariables false
set_option maxRecDepth 100000 in
set_option maxHeartbeats 4000000 in
theorem FnExactStepPlatform_walk (p : Plt) (e : Bev) (w : World) (hw0 : p.wf) (hw1 : e.wf) :
    Calls Try.prog 6 #[.agg #[.int .i64 p.d, .int .i64 p.s, .int .i64 p.i, .int .i64 p.w, .bool p.l, .int .i64 p.g], .agg #[.string e.k, .int .i64 e.c]] w fun e w' => e = .returned (.bool true) ∧ Below w.heap.size w w' := by
  have HW1 := Lib.hid hw1
  clear hw0 hw1
  have Kp := Lib.hid (duo_1 w (.cells #[.int .i64 p.d, .int .i64 p.s, .int .i64 p.i, .int .i64 p.w, .bool p.l, .int .i64 p.g] 48) (.cells #[.string e.k, .int .i64 e.c] 51))
  have Ke := Lib.hid (duo_2 w (.cells #[.int .i64 p.d, .int .i64 p.s, .int .i64 p.i, .int .i64 p.w, .bool p.l, .int .i64 p.g] 48) (.cells #[.string e.k, .int .i64 e.c] 51))
  have HT0 : Hid (Below w.heap.size w ((w.alloc (.cells #[.int .i64 p.d, .int .i64 p.s, .int .i64 p.i, .int .i64 p.w, .bool p.l, .int .i64 p.g] 48)).alloc (.cells #[.string e.k, .int .i64 e.c] 51))) := Lib.hid (((Below.refl _ _).alloc (by simp) _).alloc (by simp) _)
  by_cases hsz : e.k.size ≤ 1048576
  · have hs1 : (e.txt : Int) ≤ 1048576 := by unfold Bev.txt; omega
    have hs2 : ¬ (1048576 - (e.txt : Int) < 0) := by omega
    go_enter Try.func6, Try.ntmps6
    go_upto_region 1 with fail
    generalize (w.alloc (.cells #[.int .i64 p.d, .int .i64 p.s, .int .i64 p.i, .int .i64 p.w, .bool p.l, .int .i64 p.g] 48)).alloc (.cells #[.string e.k, .int .i64 e.c] 51) = W0 at *
    have t0 := Below.refl W0.heap.size W0
    obtain ⟨ye_0, ye_1⟩ := blk_cell2 Ke.out
    have hle := blk_lt Ke.out
    go_wp2_with fail
    refine (szBoardEvent_ok e _ _ (by omega) hs1).mono ?_
    rintro e W1 ⟨rfl, b1⟩
    clear ye_0 ye_1 hle
    have Kp := Lib.hid (blk_kept Kp.out b1)
    have Ke := Lib.hid (blk_kept Ke.out b1)
    have t2 := t0.trans (b1.mono t0.size)
    obtain ⟨yp_0, yp_1, yp_2, yp_3, yp_4, yp_5⟩ := blk_cell6 Kp.out
    obtain ⟨ye_0, ye_1⟩ := blk_cell2 Ke.out
    have hlp := blk_lt Kp.out
    have hle := blk_lt Ke.out
    have HKS : Hid (∀ W, Below W1.heap.size W1 W → Below W1.heap.size W1 W ∧ W.cell? ⟨w.heap.size, 0, none⟩ = some (.int .i64 p.d) ∧ W.cell? ⟨w.heap.size, 1, none⟩ = some (.int .i64 p.s) ∧ W.cell? ⟨w.heap.size, 2, none⟩ = some (.int .i64 p.i) ∧ W.cell? ⟨w.heap.size, 3, none⟩ = some (.int .i64 p.w) ∧ W.cell? ⟨w.heap.size, 4, none⟩ = some (.bool p.l) ∧ W.cell? ⟨w.heap.size, 5, none⟩ = some (.int .i64 p.g) ∧ W.cell? ⟨w.heap.size + 1, 0, none⟩ = some (.string e.k) ∧ W.cell? ⟨w.heap.size + 1, 1, none⟩ = some (.int .i64 e.c)) := Lib.hid (fun W h => ⟨h, (h.cell (p := ⟨w.heap.size, 0, none⟩) hlp).trans yp_0, (h.cell (p := ⟨w.heap.size, 1, none⟩) hlp).trans yp_1, (h.cell (p := ⟨w.heap.size, 2, none⟩) hlp).trans yp_2, (h.cell (p := ⟨w.heap.size, 3, none⟩) hlp).trans yp_3, (h.cell (p := ⟨w.heap.size, 4, none⟩) hlp).trans yp_4, (h.cell (p := ⟨w.heap.size, 5, none⟩) hlp).trans yp_5, (h.cell (p := ⟨w.heap.size + 1, 0, none⟩) hle).trans ye_0, (h.cell (p := ⟨w.heap.size + 1, 1, none⟩) hle).trans ye_1⟩)
    clear yp_0 yp_1 yp_2 yp_3 yp_4 yp_5 hlp
    clear ye_0 ye_1 hle
    go_wp2_with fail
    go_cut [6, 7] from 15 to 22 (fun s0 s1 wx => ∃ P : Nat, s0 = .pointer (some ⟨P, 0, none⟩) ∧ s1 = .bool (spOk p e) ∧ Hid (Below W1.heap.size W1 wx) ∧ Hid (W1.heap.size ≤ P ∧ wx.heap[P]? = some (.cells #[.int .i64 (spR p e).d, .int .i64 (spR p e).s, .int .i64 (spR p e).i, .int .i64 (spR p e).w, .bool (spR p e).l, .int .i64 (spR p e).g] 25 (0, 0))))
    case first =>
      as_aux_lemma =>
      go_region_held3 (fun w' => Below W1.heap.size W1 w' ∧ w'.cell? ⟨w.heap.size, 0, none⟩ = some (.int .i64 p.d) ∧ w'.cell? ⟨w.heap.size, 1, none⟩ = some (.int .i64 p.s) ∧ w'.cell? ⟨w.heap.size, 2, none⟩ = some (.int .i64 p.i) ∧ w'.cell? ⟨w.heap.size, 3, none⟩ = some (.int .i64 p.w) ∧ w'.cell? ⟨w.heap.size, 4, none⟩ = some (.bool p.l) ∧ w'.cell? ⟨w.heap.size, 5, none⟩ = some (.int .i64 p.g) ∧ w'.cell? ⟨w.heap.size + 1, 0, none⟩ = some (.string e.k) ∧ w'.cell? ⟨w.heap.size + 1, 1, none⟩ = some (.int .i64 e.c)) (exact HKS.out _ (by (repeat (with_reducible (first | exact B5 | exact B4 | exact B3 | refine below_al ?_ _ | refine below_all6 ?_ (by first | exact Nat.le_refl _ | exact B3.size | exact B4.size | exact B5.size | fail) _ _ _ _ _ _ | refine Below.drew ?_ | refine below_drewN ?_ _ | exact Below.refl _ _))); first | done | fail))
        (first
          | (go_at_call 30; refine (toPlatform_any p _).mono ?_; rintro e1 W3 ⟨rfl, b3⟩; have B3 : Below W1.heap.size W1 W3 := bel_then (by (repeat (with_reducible (first | exact B4 | refine below_al ?_ _ | refine Below.drew ?_ | refine below_drewN ?_ _ | exact Below.refl _ _))); first | done | fail) b3)
          | (go_at_call 32; refine (toBoardEvent_any e _).mono ?_; rintro e1 W4 ⟨rfl, b4⟩; have B4 : Below W1.heap.size W1 W4 := bel_then (by (repeat (with_reducible (first | exact B3 | refine below_al ?_ _ | refine Below.drew ?_ | refine below_drewN ?_ _ | exact Below.refl _ _))); first | done | fail) b4)
          | (go_at_call 19; refine (specStepPlatform_c p e _).mono ?_; rintro e1 W5 ⟨rfl, b5⟩; have B5 : Below W1.heap.size W1 W5 := bel_then (by (repeat (with_reducible (first | exact B4 | exact B3 | refine below_al ?_ _ | refine Below.drew ?_ | refine below_drewN ?_ _ | exact Below.refl _ _))); first | done | fail) b5; first | (have KB : W5.heap[W1.heap.size]? = some (.cells #[.int .i64 0, .int .i64 0, .int .i64 0, .int .i64 0, .bool false, .int .i64 0] 25 (0, 0)) := (by (repeat (first | (with_reducible refine new_at _ _ _ ?_; first | rfl | (simp; done) | fail) | with_reducible refine blk_drew ?_ | with_reducible refine blk_stay ?_ | with_reducible refine blk_kept ?_ b5 | with_reducible refine blk_kept ?_ b4 | with_reducible refine blk_kept ?_ b3)); first | done | fail); obtain ⟨p0, p1, p2, p3, p4, p5⟩ := blk_cell6 KB; obtain ⟨m0, m1, m2, m3, m4, m5⟩ := blk_froz6 KB; have hltB := blk_lt KB) | (have KB : W5.heap[W3.heap.size]? = some (.cells #[.int .i64 0, .int .i64 0, .int .i64 0, .int .i64 0, .bool false, .int .i64 0] 25 (0, 0)) := (by (repeat (first | (with_reducible refine new_at _ _ _ ?_; first | rfl | (simp; done) | fail) | with_reducible refine blk_drew ?_ | with_reducible refine blk_stay ?_ | with_reducible refine blk_kept ?_ b5 | with_reducible refine blk_kept ?_ b4 | with_reducible refine blk_kept ?_ b3)); first | done | fail); obtain ⟨p0, p1, p2, p3, p4, p5⟩ := blk_cell6 KB; obtain ⟨m0, m1, m2, m3, m4, m5⟩ := blk_froz6 KB; have hltB := blk_lt KB) | (have KB : W5.heap[W4.heap.size]? = some (.cells #[.int .i64 0, .int .i64 0, .int .i64 0, .int .i64 0, .bool false, .int .i64 0] 25 (0, 0)) := (by (repeat (first | (with_reducible refine new_at _ _ _ ?_; first | rfl | (simp; done) | fail) | with_reducible refine blk_drew ?_ | with_reducible refine blk_stay ?_ | with_reducible refine blk_kept ?_ b5 | with_reducible refine blk_kept ?_ b4 | with_reducible refine blk_kept ?_ b3)); first | done | fail); obtain ⟨p0, p1, p2, p3, p4, p5⟩ := blk_cell6 KB; obtain ⟨m0, m1, m2, m3, m4, m5⟩ := blk_froz6 KB; have hltB := blk_lt KB) | skip)
          | fail)
      all_goals (try go_wp2_with fail)
      all_goals go_meet
      all_goals (case rel => have Z1 := B3.size; have Z2 := B4.size; have Z3 := B5.size; exact ⟨_, rfl, rfl, Lib.hid (by (repeat (with_reducible (first | exact B5 | exact B4 | exact B3 | refine below_al ?_ _ | refine below_all6 ?_ (by first | exact Nat.le_refl _ | exact B3.size | exact B4.size | exact B5.size | fail) _ _ _ _ _ _ | refine Below.drew ?_ | refine below_drewN ?_ _ | exact Below.refl _ _))); first | done | fail), Lib.hid ⟨(by first | exact Nat.le_refl _ | omega), (by with_reducible (first | exact blk_new6 _ _ _ _ _ _ _ _ | exact blk_all6 KB | fail))⟩⟩)
    case rest =>
      obtain ⟨Pw, rfl, rfl, hcut, HN5⟩ := hcut
      obtain ⟨Y6, hY⟩ := named12 hcut
      subst hY
      have b6 := hcut.out
      have Kw := Lib.hid HN5.out.2
      clear HN5 hcut HKS
      have Kp := Lib.hid (blk_kept Kp.out b6)
      have Ke := Lib.hid (blk_kept Ke.out b6)
      have t7 := t2.trans (b6.mono t2.size)
      obtain ⟨yp_0, yp_1, yp_2, yp_3, yp_4, yp_5⟩ := blk_cell6 Kp.out
      obtain ⟨ye_0, ye_1⟩ := blk_cell2 Ke.out
      have hlp := blk_lt Kp.out
      have hle := blk_lt Ke.out
      have HKS : Hid (∀ W, Below Y6.heap.size Y6 W → Below Y6.heap.size Y6 W ∧ W.cell? ⟨w.heap.size, 0, none⟩ = some (.int .i64 p.d) ∧ W.cell? ⟨w.heap.size, 1, none⟩ = some (.int .i64 p.s) ∧ W.cell? ⟨w.heap.size, 2, none⟩ = some (.int .i64 p.i) ∧ W.cell? ⟨w.heap.size, 3, none⟩ = some (.int .i64 p.w) ∧ W.cell? ⟨w.heap.size, 4, none⟩ = some (.bool p.l) ∧ W.cell? ⟨w.heap.size, 5, none⟩ = some (.int .i64 p.g) ∧ W.cell? ⟨w.heap.size + 1, 0, none⟩ = some (.string e.k) ∧ W.cell? ⟨w.heap.size + 1, 1, none⟩ = some (.int .i64 e.c)) := Lib.hid (fun W h => ⟨h, (h.cell (p := ⟨w.heap.size, 0, none⟩) hlp).trans yp_0, (h.cell (p := ⟨w.heap.size, 1, none⟩) hlp).trans yp_1, (h.cell (p := ⟨w.heap.size, 2, none⟩) hlp).trans yp_2, (h.cell (p := ⟨w.heap.size, 3, none⟩) hlp).trans yp_3, (h.cell (p := ⟨w.heap.size, 4, none⟩) hlp).trans yp_4, (h.cell (p := ⟨w.heap.size, 5, none⟩) hlp).trans yp_5, (h.cell (p := ⟨w.heap.size + 1, 0, none⟩) hle).trans ye_0, (h.cell (p := ⟨w.heap.size + 1, 1, none⟩) hle).trans ye_1⟩)
      clear yp_0 yp_1 yp_2 yp_3 yp_4 yp_5 hlp
      clear ye_0 ye_1 hle
      go_wp2_with fail
      go_cut [8, 9] from 23 to 30 (fun s0 s1 wx => ∃ P : Nat, s0 = .pointer (some ⟨P, 0, none⟩) ∧ s1 = .bool (spOk p e) ∧ Hid (Below Y6.heap.size Y6 wx) ∧ Hid (Y6.heap.size ≤ P ∧ wx.heap[P]? = some (.cells #[.int .i64 (spR p e).d, .int .i64 (spR p e).s, .int .i64 (spR p e).i, .int .i64 (spR p e).w, .bool (spR p e).l, .int .i64 (spR p e).g] 25 (0, 0))))
      case first =>
        as_aux_lemma =>
        go_region_held3 (fun w' => Below Y6.heap.size Y6 w' ∧ w'.cell? ⟨w.heap.size, 0, none⟩ = some (.int .i64 p.d) ∧ w'.cell? ⟨w.heap.size, 1, none⟩ = some (.int .i64 p.s) ∧ w'.cell? ⟨w.heap.size, 2, none⟩ = some (.int .i64 p.i) ∧ w'.cell? ⟨w.heap.size, 3, none⟩ = some (.int .i64 p.w) ∧ w'.cell? ⟨w.heap.size, 4, none⟩ = some (.bool p.l) ∧ w'.cell? ⟨w.heap.size, 5, none⟩ = some (.int .i64 p.g) ∧ w'.cell? ⟨w.heap.size + 1, 0, none⟩ = some (.string e.k) ∧ w'.cell? ⟨w.heap.size + 1, 1, none⟩ = some (.int .i64 e.c)) (exact HKS.out _ (by (repeat (with_reducible (first | exact B10 | exact B9 | exact B8 | refine below_al ?_ _ | refine below_all6 ?_ (by first | exact Nat.le_refl _ | exact B8.size | exact B9.size | exact B10.size | fail) _ _ _ _ _ _ | refine Below.drew ?_ | refine below_drewN ?_ _ | exact Below.refl _ _))); first | done | fail))
          (first
            | (go_at_call 30; refine (toPlatform_any p _).mono ?_; rintro e1 W8 ⟨rfl, b8⟩; have B8 : Below Y6.heap.size Y6 W8 := bel_then (by (repeat (with_reducible (first | exact B9 | refine below_al ?_ _ | refine Below.drew ?_ | refine below_drewN ?_ _ | exact Below.refl _ _))); first | done | fail) b8)
            | (go_at_call 32; refine (toBoardEvent_any e _).mono ?_; rintro e1 W9 ⟨rfl, b9⟩; have B9 : Below Y6.heap.size Y6 W9 := bel_then (by (repeat (with_reducible (first | exact B8 | refine below_al ?_ _ | refine Below.drew ?_ | refine below_drewN ?_ _ | exact Below.refl _ _))); first | done | fail) b9)
            | (go_at_call 17; refine (implStepPlatform_c p e _).mono ?_; rintro e1 W10 ⟨rfl, b10⟩; have B10 : Below Y6.heap.size Y6 W10 := bel_then (by (repeat (with_reducible (first | exact B9 | exact B8 | refine below_al ?_ _ | refine Below.drew ?_ | refine below_drewN ?_ _ | exact Below.refl _ _))); first | done | fail) b10; first | (have KB : W10.heap[Y6.heap.size]? = some (.cells #[.int .i64 0, .int .i64 0, .int .i64 0, .int .i64 0, .bool false, .int .i64 0] 25 (0, 0)) := (by (repeat (first | (with_reducible refine new_at _ _ _ ?_; first | rfl | (simp; done) | fail) | with_reducible refine blk_drew ?_ | with_reducible refine blk_stay ?_ | with_reducible refine blk_kept ?_ b10 | with_reducible refine blk_kept ?_ b9 | with_reducible refine blk_kept ?_ b8)); first | done | fail); obtain ⟨p0, p1, p2, p3, p4, p5⟩ := blk_cell6 KB; obtain ⟨m0, m1, m2, m3, m4, m5⟩ := blk_froz6 KB; have hltB := blk_lt KB) | (have KB : W10.heap[W8.heap.size]? = some (.cells #[.int .i64 0, .int .i64 0, .int .i64 0, .int .i64 0, .bool false, .int .i64 0] 25 (0, 0)) := (by (repeat (first | (with_reducible refine new_at _ _ _ ?_; first | rfl | (simp; done) | fail) | with_reducible refine blk_drew ?_ | with_reducible refine blk_stay ?_ | with_reducible refine blk_kept ?_ b10 | with_reducible refine blk_kept ?_ b9 | with_reducible refine blk_kept ?_ b8)); first | done | fail); obtain ⟨p0, p1, p2, p3, p4, p5⟩ := blk_cell6 KB; obtain ⟨m0, m1, m2, m3, m4, m5⟩ := blk_froz6 KB; have hltB := blk_lt KB) | (have KB : W10.heap[W9.heap.size]? = some (.cells #[.int .i64 0, .int .i64 0, .int .i64 0, .int .i64 0, .bool false, .int .i64 0] 25 (0, 0)) := (by (repeat (first | (with_reducible refine new_at _ _ _ ?_; first | rfl | (simp; done) | fail) | with_reducible refine blk_drew ?_ | with_reducible refine blk_stay ?_ | with_reducible refine blk_kept ?_ b10 | with_reducible refine blk_kept ?_ b9 | with_reducible refine blk_kept ?_ b8)); first | done | fail); obtain ⟨p0, p1, p2, p3, p4, p5⟩ := blk_cell6 KB; obtain ⟨m0, m1, m2, m3, m4, m5⟩ := blk_froz6 KB; have hltB := blk_lt KB) | skip)
            | fail)
        all_goals (try go_wp2_with fail)
        all_goals go_meet
        all_goals (case rel => have Z1 := B8.size; have Z2 := B9.size; have Z3 := B10.size; exact ⟨_, rfl, rfl, Lib.hid (by (repeat (with_reducible (first | exact B10 | exact B9 | exact B8 | refine below_al ?_ _ | refine below_all6 ?_ (by first | exact Nat.le_refl _ | exact B8.size | exact B9.size | exact B10.size | fail) _ _ _ _ _ _ | refine Below.drew ?_ | refine below_drewN ?_ _ | exact Below.refl _ _))); first | done | fail), Lib.hid ⟨(by first | exact Nat.le_refl _ | omega), (by with_reducible (first | exact blk_new6 _ _ _ _ _ _ _ _ | exact blk_all6 KB | fail))⟩⟩)
      case rest =>
        obtain ⟨Pg, rfl, rfl, hcut, HN5⟩ := hcut
        obtain ⟨Y11, hY⟩ := named12 hcut
        subst hY
        have b11 := hcut.out
        have Kg := Lib.hid HN5.out.2
        clear HN5 hcut HKS
        have Kp := Lib.hid (blk_kept Kp.out b11)
        have Ke := Lib.hid (blk_kept Ke.out b11)
        have Kw := Lib.hid (blk_kept Kw.out b11)
        have t12 := t7.trans (b11.mono t7.size)
        obtain ⟨yg_0, yg_1, yg_2, yg_3, yg_4, yg_5⟩ := blk_cell6 Kg.out
        obtain ⟨yw_0, yw_1, yw_2, yw_3, yw_4, yw_5⟩ := blk_cell6 Kw.out
        have hlg := blk_lt Kg.out
        have hlw := blk_lt Kw.out
        go_wp2_with fail
        refine (eqPlatform_same (spR p e) _).mono ?_
        rintro e W13 ⟨rfl, b13⟩
        clear yg_0 yg_1 yg_2 yg_3 yg_4 yg_5 hlg
        clear yw_0 yw_1 yw_2 yw_3 yw_4 yw_5 hlw
        have Kp := Lib.hid (blk_kept Kp.out b13)
        have Ke := Lib.hid (blk_kept Ke.out b13)
        have Kw := Lib.hid (blk_kept Kw.out b13)
        have Kg := Lib.hid (blk_kept Kg.out b13)
        have t14 := t12.trans (b13.mono t12.size)
        go_wp2_with fail
        go_ret
        exact ⟨rfl, HT0.out.trans (t14.mono HT0.out.size)⟩
  · have hs1 : (1048576 : Int) < (e.txt : Int) := by unfold Bev.txt; omega
    go_enter Try.func6, Try.ntmps6
    go_upto_region 1 with fail
    generalize (w.alloc (.cells #[.int .i64 p.d, .int .i64 p.s, .int .i64 p.i, .int .i64 p.w, .bool p.l, .int .i64 p.g] 48)).alloc (.cells #[.string e.k, .int .i64 e.c] 51) = W0 at *
    have t0 := Below.refl W0.heap.size W0
    obtain ⟨ye_0, ye_1⟩ := blk_cell2 Ke.out
    have hle := blk_lt Ke.out
    go_wp2_with fail
    refine (szBoardEvent_big e _ _ (by omega) (by omega) HW1.out.1 hs1).mono ?_
    rintro e W15 ⟨rfl, b15⟩
    clear ye_0 ye_1 hle
    have Kp := Lib.hid (blk_kept Kp.out b15)
    have Ke := Lib.hid (blk_kept Ke.out b15)
    have t16 := t0.trans (b15.mono t0.size)
    go_wp2_with fail
    go_ret
    exact ⟨rfl, HT0.out.trans (t16.mono HT0.out.size)⟩
end Go.Proofs.Ytinlcbljpclccaa
