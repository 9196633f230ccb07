/- The law FnQuickest's walk. Condition: sizes; the library's table is as laid. -/
import Derived.Test.YtinlcbljpclccaaDoorDrawPl1
import Derived.Test.YtinlcbljpclccaaDoorBpF
import Derived.Test.YtinlcbljpclccaaDoorBoJ
import Derived.Test.YtinlcbljpclccaaDoorBpC
import Derived.Test.YtinlcbljpclccaaDoorBpD
import Derived.Test.YtinlcbljpclccaaDoorBoF
import Derived.Test.YtinlcbljpclccaaDoorBoT
import Derived.Test.YtinlcbljpclccaaDoorBoHelp
import Derived.Test.YtinlcbljpclccaaDoorLawK
import Derived.Deep.RegionHeld3
import Derived.Deep.CutRange
import Derived.Deep.CutBlock
import Derived.Deep.DeepCutAuto
import Derived.WalkArith
namespace Go.Proofs.YtinlcbljpclccaaDoor
open Go.RowKit
set_option linter.unusedVariables false
theorem qu_law {p : Plt} (h : qgV p = true) : plV p = true ∧ rpOk p (qgL p) = true ∧ (rpN p (qgL p) : Int) = ((qgL p).length : Int) ∧ (rpP p (qgL p)).s = 0 ∧ (rpP p (qgL p)).g = p.g + 1 ∧ (0 < (rpP p (qgL p)).w → p.w - (rpP p (qgL p)).w = p.s - p.i) ∧ (0 ≤ (rpP p (qgL p)).w ∧ (rpP p (qgL p)).w ≤ 500) := by
  obtain ⟨a, b, c, d, e, f⟩ := run_qg h
  have hP : rpP p (qgL p) = (runP p (qgL p)).1 := by rw [rpP, if_pos b]
  have hN : rpN p (qgL p) = (runP p (qgL p)).2 := by rw [rpN, if_pos b]
  have hv := (plV_iff _).1 (run_ok (qgL p) p a)
  rw [hP, hN]
  exact ⟨a, b, by omega, d, e, f, hv.2.2.2.1⟩
theorem me_law {x : Plt} (h : plV x = true) : meR x = entP x ∧ (0 ≤ entP x ∧ entP x ≤ 16) ∧ spOk x ⟨kEnter, entP x + 1⟩ = false ∧ spOk x ⟨kEnter, entP x⟩ = decide (0 < entP x) := by
  have h1 := (entP_bd h).1
  have h2 := ent_le h
  refine ⟨by simp [meR, h], ⟨h1, h2⟩, ?_, ?_⟩
  · rw [spOk, h, me_step h, Bool.true_and, Bool.and_eq_false_iff]
    right; simp; omega
  · rw [spOk, h, me_step h, Bool.eq_iff_iff]; simp; omega
set_option maxRecDepth 100000 in
set_option maxHeartbeats 8000000 in
theorem FnQuickest_walk (a : Option Addr) (len cap : Nat) (w : World) (h : ByteRow w a len) (ht : TabP w) :
    Calls Tryd.prog 3 #[.slice a len cap] w fun e w' => e = .returned (.bool true) ∧ Below w.heap.size w w' := by
  have hm := h.1
  have HC := Lib.hid h
  have HTB : Hid (∀ W, Below w.heap.size w W → TabP W) := Lib.hid (fun W hW => ht.below hW)
  clear h ht
  by_cases hbig : 65536 < len
  · go_enter Tryd.func3, Tryd.ntmps3
    go_wp2_with fail
    refine (rBig_yes a len cap _ hbig hm).mono ?_
    rintro e w' ⟨rfl, rfl⟩
    go_wp2_with fail
    go_ret
    exact ⟨rfl, Below.refl _ _⟩
  · go_enter Tryd.func3, Tryd.ntmps3
    go_wp2_with fail
    refine (rBig_no a len cap _ (by omega)).mono ?_
    rintro e W0 ⟨rfl, hw0⟩
    have t0 : Below w.heap.size w W0 := by rw [← hw0]; exact Below.refl _ _
    clear hw0
    go_wp2_with fail
    refine (DrawQuickestGo_any a len cap _ (HC.out.below t0)).mono ?_
    rintro e W1 ⟨x, rfl, b1⟩
    have t2 := t0.trans (b1.mono t0.size)
    clear t0
    clear b1
    have Kp := Lib.hid (heap_alloc_new W1 (.cells #[.int .i64 x.d, .int .i64 x.s, .int .i64 x.i, .int .i64 x.w, .bool x.l, .int .i64 x.g] 25))
    have t4 := t2.alloc t2.size (.cells #[.int .i64 x.d, .int .i64 x.s, .int .i64 x.i, .int .i64 x.w, .bool x.l, .int .i64 x.g] 25)
    clear t2
    go_upto_region 4 with fail
    generalize W1.alloc (.cells #[.int .i64 x.d, .int .i64 x.s, .int .i64 x.i, .int .i64 x.w, .bool x.l, .int .i64 x.g] 25) = V3 at *
    obtain ⟨Pp, hPp⟩ : ∃ P, P = W1.heap.size := ⟨_, rfl⟩
    rw [← hPp] at Kp ⊢
    clear hPp
    have HQ := Lib.hid (@qu_law x)
    have hle := qgL_len x
    have E1 := Lib.hid (fun W => implQuickestGo_c x W)
    have E2 := Lib.hid (fun W => specQuickestGo_c x W)
    generalize qgL x = L at *
    generalize qgV x = ok at *
    obtain ⟨yp_0, yp_1, yp_2, yp_3, yp_4, yp_5⟩ := blk_cell6 Kp.out
    have hlp := blk_lt Kp.out
    go_wp2_with fail
    refine (E1.out _).mono ?_
    rintro e W5 ⟨vg, rfl, ng, b5⟩
    clear yp_0 yp_1 yp_2 yp_3 yp_4 yp_5 hlp
    have Kp := Lib.hid (blk_kept Kp.out b5)
    have t6 := t4.trans (b5.mono t4.size)
    clear t4
    clear b5
    have rg := Lib.hid (Rs.of_own ng)
    clear ng
    obtain ⟨yp_0, yp_1, yp_2, yp_3, yp_4, yp_5⟩ := blk_cell6 Kp.out
    have hlp := blk_lt Kp.out
    go_wp2_with fail
    refine (E2.out _).mono ?_
    rintro e W7 ⟨vh, rfl, nh, b7⟩
    clear yp_0 yp_1 yp_2 yp_3 yp_4 yp_5 hlp
    have Kp := Lib.hid (blk_kept Kp.out b7)
    have rg := Lib.hid (rg.out.below b7 rfl)
    have t8 := t6.trans (b7.mono t6.size)
    clear t6
    clear b7
    have rh := Lib.hid (Rs.of_own nh)
    clear nh
    obtain ⟨ag, cg, hvg⟩ := rg.out.shape
    subst hvg
    clear E1 E2
    have g1 : (ok != ok) = false := by simp
    go_wp2_with fail
    refine (rEvents_c _ vh L _ rg.out rh.out (by omega)).mono ?_
    rintro e W9 ⟨rfl, b9⟩
    have Kp := Lib.hid (blk_kept Kp.out b9)
    have rg := Lib.hid (rg.out.below b9 rfl)
    have rh := Lib.hid (rh.out.below b9 rfl)
    have t10 := t8.trans (b9.mono t8.size)
    clear t8
    clear b9
    clear rh
    clear g1
    go_upto_if 48 with fail
    go_cut [] from 3 (fun wx => Hid (Below w.heap.size w wx))
    case first =>
      as_aux_lemma =>
      cases ok with
      | false =>
        go_wp2
        go_meet
        case rel => exact Lib.hid t10
      | true =>
        obtain ⟨hpv, hro, hrn, hrs, hrg, hrw, hwb⟩ := HQ.out rfl
        have hpb := (plV_iff x).1 hpv
        have ER := Lib.hid (fun W h => by have h2 := implRunPlatform_c x (.slice ag L.length cg) L W h (by unfold maxLen; omega); rw [hro, hrn] at h2; exact h2)
        have HRS := Lib.hid hrs
        have HRG := Lib.hid hrg
        have HRW := Lib.hid hrw
        clear hrs hrg hrw hro hrn HQ hpv
        generalize rpP x L = R at *
        obtain ⟨yp_0, yp_1, yp_2, yp_3, yp_4, yp_5⟩ := blk_cell6 Kp.out
        have hlp := blk_lt Kp.out
        go_wp2_with fail
        refine (ER.out _ rg.out).mono ?_
        rintro e W11 ⟨rfl, b11⟩
        clear yp_0 yp_1 yp_2 yp_3 yp_4 yp_5 hlp
        have Kp := Lib.hid (blk_kept Kp.out b11)
        have rg := Lib.hid (rg.out.below b11 rfl)
        have t12 := t10.trans (b11.mono t10.size)
        clear t10
        clear b11
        obtain ⟨Rd, Rs_, Ri, Rw, Rl, Rg⟩ := R
        dsimp only at HRS HRG HRW hwb
        have e1 := HRS.out
        subst e1
        have e2 := HRG.out
        subst e2
        clear HRS HRG
        have Kp := Lib.hid (blk_stay (o' := (.cells #[.int .i64 Rd, .int .i64 0, .int .i64 Ri, .int .i64 Rw, .bool Rl, .int .i64 (x.g + 1)] 25)) Kp.out)
        have rg := Lib.hid (rg.out.below ((Below.refl _ _).alloc (Nat.le_refl _) (.cells #[.int .i64 Rd, .int .i64 0, .int .i64 Ri, .int .i64 Rw, .bool Rl, .int .i64 (x.g + 1)] 25)) rfl)
        have Ko := Lib.hid (heap_alloc_new W11 (.cells #[.int .i64 Rd, .int .i64 0, .int .i64 Ri, .int .i64 Rw, .bool Rl, .int .i64 (x.g + 1)] 25))
        have t14 := t12.alloc t12.size (.cells #[.int .i64 Rd, .int .i64 0, .int .i64 Ri, .int .i64 Rw, .bool Rl, .int .i64 (x.g + 1)] 25)
        clear t12
        go_upto_region 10 with fail
        generalize W11.alloc (.cells #[.int .i64 Rd, .int .i64 0, .int .i64 Ri, .int .i64 Rw, .bool Rl, .int .i64 (x.g + 1)] 25) = V13 at *
        obtain ⟨Po, hPo⟩ : ∃ P, P = W11.heap.size := ⟨_, rfl⟩
        rw [← hPo] at Ko ⊢
        clear hPo
        have q1 : IntKind.i64.wrap (x.g + 1) = x.g + 1 := IntWalk.i64_in _ (by omega)
        have q2 : IntKind.i64.wrap (x.w - Rw) = x.w - Rw := IntWalk.i64_in _ (by omega)
        have q3 : IntKind.i64.wrap (x.s - x.i) = x.s - x.i := IntWalk.i64_in _ (by omega)
        have g2 : ((L.length : Int) != (L.length : Int)) = false := by simp
        have g3 : (x.g + 1 != x.g + 1) = false := by simp
        clear hpb hwb
        obtain ⟨yp_0, yp_1, yp_2, yp_3, yp_4, yp_5⟩ := blk_cell6 Kp.out
        have hlp := blk_lt Kp.out
        obtain ⟨yo_0, yo_1, yo_2, yo_3, yo_4, yo_5⟩ := blk_cell6 Ko.out
        have hlo := blk_lt Ko.out
        by_cases hw : 0 < Rw
        · have hw2 := HRW.out hw
          have g4 : (x.w - Rw != x.s - x.i) = false := by rw [hw2]; simp
          clear hw2
          go_wp2_with fail
          go_meet
          case rel => exact Lib.hid t14
        · go_wp2_with fail
          go_meet
          case rel => exact Lib.hid t14
    case rest =>
      clear Kp
      clear rg
      obtain ⟨Y35, hY⟩ := named12 hcut
      subst hY
      have t35 := hcut.out
      clear hcut HQ t10
      go_wp2_with fail
      refine (DrawMostEntering_any a len cap _ (HC.out.below t35)).mono ?_
      rintro e W36 ⟨y, rfl, b36⟩
      have t37 := t35.trans (b36.mono t35.size)
      clear t35
      clear b36
      have Ky := Lib.hid (heap_alloc_new W36 (.cells #[.int .i64 y.d, .int .i64 y.s, .int .i64 y.i, .int .i64 y.w, .bool y.l, .int .i64 y.g] 25))
      have t39 := t37.alloc t37.size (.cells #[.int .i64 y.d, .int .i64 y.s, .int .i64 y.i, .int .i64 y.w, .bool y.l, .int .i64 y.g] 25)
      clear t37
      go_upto_region 13 with fail
      generalize W36.alloc (.cells #[.int .i64 y.d, .int .i64 y.s, .int .i64 y.i, .int .i64 y.w, .bool y.l, .int .i64 y.g] 25) = V38 at *
      obtain ⟨Py, hPy⟩ : ∃ P, P = W36.heap.size := ⟨_, rfl⟩
      rw [← hPy] at Ky ⊢
      clear hPy
      have HM := Lib.hid (@me_law y)
      have E1 := Lib.hid (fun W => implMostEntering_c y W)
      have E2 := Lib.hid (fun W => specMostEntering_c y W)
      have E3 := Lib.hid (fun c W => implStepPlatform_c y ⟨kEnter, c⟩ W)
      generalize meR y = M at *
      generalize plV y = fine at *
      obtain ⟨yy_0, yy_1, yy_2, yy_3, yy_4, yy_5⟩ := blk_cell6 Ky.out
      have hly := blk_lt Ky.out
      go_wp2_with fail
      refine (E1.out _).mono ?_
      rintro e W40 ⟨rfl, b40⟩
      clear yy_0 yy_1 yy_2 yy_3 yy_4 yy_5 hly
      have Ky := Lib.hid (blk_kept Ky.out b40)
      have t41 := t39.trans (b40.mono t39.size)
      clear t39
      clear b40
      obtain ⟨yy_0, yy_1, yy_2, yy_3, yy_4, yy_5⟩ := blk_cell6 Ky.out
      have hly := blk_lt Ky.out
      go_wp2_with fail
      refine (E2.out _).mono ?_
      rintro e W42 ⟨rfl, b42⟩
      clear yy_0 yy_1 yy_2 yy_3 yy_4 yy_5 hly
      have Ky := Lib.hid (blk_kept Ky.out b42)
      have t43 := t41.trans (b42.mono t41.size)
      clear t41
      clear b42
      have g1 : (fine != fine) = false := by simp
      have g2 : (M != M) = false := by simp
      go_upto_if 115 with fail
      clear E1 E2 g1 g2
      go_cut [] from 3 (fun wx => Hid (Below w.heap.size w wx))
      case first =>
        as_aux_lemma =>
        cases fine with
        | false =>
          go_wp2
          go_meet
          case rel => exact Lib.hid t43
        | true =>
          obtain ⟨e1, e2, e3, e4⟩ := HM.out rfl
          rw [← e1] at e2 e3 e4
          clear HM e1
          have F1 := Lib.hid (fun W => by have h := E3.out (M + 1) W; rw [e3] at h; exact h)
          have F2 := Lib.hid (fun W => by have h := E3.out M W; rw [e4] at h; exact h)
          clear E3 e3 e4
          have q1 : IntKind.i64.wrap (M + 1) = M + 1 := IntWalk.i64_in _ (by omega)
          generalize spR y ⟨kEnter, M + 1⟩ = A1 at *
          generalize spR y ⟨kEnter, M⟩ = A2 at *
          clear e2
          obtain ⟨pos, hpos⟩ : ∃ b : Bool, decide (0 < M) = b := ⟨_, rfl⟩
          rw [hpos] at F2
          obtain ⟨yy_0, yy_1, yy_2, yy_3, yy_4, yy_5⟩ := blk_cell6 Ky.out
          have hly := blk_lt Ky.out
          go_wp2_with fail
          refine (F1.out _).mono ?_
          rintro e W44 ⟨rfl, b44⟩
          clear yy_0 yy_1 yy_2 yy_3 yy_4 yy_5 hly
          have Ky := Lib.hid (blk_kept Ky.out b44)
          have t45 := t43.trans (b44.mono t43.size)
          clear t43
          clear b44
          have Ky := Lib.hid (blk_stay (o' := (.cells #[.int .i64 A1.d, .int .i64 A1.s, .int .i64 A1.i, .int .i64 A1.w, .bool A1.l, .int .i64 A1.g] 25)) Ky.out)
          have Ks := Lib.hid (heap_alloc_new W44 (.cells #[.int .i64 A1.d, .int .i64 A1.s, .int .i64 A1.i, .int .i64 A1.w, .bool A1.l, .int .i64 A1.g] 25))
          have t47 := t45.alloc t45.size (.cells #[.int .i64 A1.d, .int .i64 A1.s, .int .i64 A1.i, .int .i64 A1.w, .bool A1.l, .int .i64 A1.g] 25)
          clear t45
          go_upto_region 19 with fail
          generalize W44.alloc (.cells #[.int .i64 A1.d, .int .i64 A1.s, .int .i64 A1.i, .int .i64 A1.w, .bool A1.l, .int .i64 A1.g] 25) = V46 at *
          obtain ⟨Ps, hPs⟩ : ∃ P, P = W44.heap.size := ⟨_, rfl⟩
          rw [← hPs] at Ks ⊢
          clear hPs
          obtain ⟨yy_0, yy_1, yy_2, yy_3, yy_4, yy_5⟩ := blk_cell6 Ky.out
          have hly := blk_lt Ky.out
          go_wp2_with fail
          refine (F2.out _).mono ?_
          rintro e W48 ⟨rfl, b48⟩
          clear yy_0 yy_1 yy_2 yy_3 yy_4 yy_5 hly
          have Ky := Lib.hid (blk_kept Ky.out b48)
          have Ks := Lib.hid (blk_kept Ks.out b48)
          have t49 := t47.trans (b48.mono t47.size)
          clear t47
          clear b48
          have Ky := Lib.hid (blk_stay (o' := (.cells #[.int .i64 A2.d, .int .i64 A2.s, .int .i64 A2.i, .int .i64 A2.w, .bool A2.l, .int .i64 A2.g] 25)) Ky.out)
          have Ks := Lib.hid (blk_stay (o' := (.cells #[.int .i64 A2.d, .int .i64 A2.s, .int .i64 A2.i, .int .i64 A2.w, .bool A2.l, .int .i64 A2.g] 25)) Ks.out)
          have Ku := Lib.hid (heap_alloc_new W48 (.cells #[.int .i64 A2.d, .int .i64 A2.s, .int .i64 A2.i, .int .i64 A2.w, .bool A2.l, .int .i64 A2.g] 25))
          have t51 := t49.alloc t49.size (.cells #[.int .i64 A2.d, .int .i64 A2.s, .int .i64 A2.i, .int .i64 A2.w, .bool A2.l, .int .i64 A2.g] 25)
          clear t49
          go_upto_region 20 with fail
          generalize W48.alloc (.cells #[.int .i64 A2.d, .int .i64 A2.s, .int .i64 A2.i, .int .i64 A2.w, .bool A2.l, .int .i64 A2.g] 25) = V50 at *
          obtain ⟨Pu, hPu⟩ : ∃ P, P = W48.heap.size := ⟨_, rfl⟩
          rw [← hPu] at Ku ⊢
          clear hPu
          have g3 : (pos != pos) = false := by simp
          have g4 : (pos != decide (0 < M)) = false := by rw [hpos]; simp
          go_wp2_with fail
          go_meet
          case rel => exact Lib.hid t51
      case rest =>
        clear Ky
        obtain ⟨Y72, hY⟩ := named12 hcut
        subst hY
        have t72 := hcut.out
        clear hcut HM E3 t43
        go_wp2_with fail
        refine (DrawBoardText_any a len cap _ (HC.out.below t72)).mono ?_
        rintro e W73 ⟨z, rfl, b73⟩
        have t74 := t72.trans (b73.mono t72.size)
        clear t72
        clear b73
        have Kz := Lib.hid (heap_alloc_new W73 (.cells #[.int .i64 z.d, .int .i64 z.s, .int .i64 z.i, .int .i64 z.w, .bool z.l, .int .i64 z.g] 25))
        have t76 := t74.alloc t74.size (.cells #[.int .i64 z.d, .int .i64 z.s, .int .i64 z.i, .int .i64 z.w, .bool z.l, .int .i64 z.g] 25)
        clear t74
        go_upto_region 23 with fail
        generalize W73.alloc (.cells #[.int .i64 z.d, .int .i64 z.s, .int .i64 z.i, .int .i64 z.w, .bool z.l, .int .i64 z.g] 25) = V75 at *
        obtain ⟨Pz, hPz⟩ : ∃ P, P = W73.heap.size := ⟨_, rfl⟩
        rw [← hPz] at Kz ⊢
        clear hPz
        have E1 := Lib.hid (fun W h => implBoardText_c z W h)
        have E2 := Lib.hid (fun W => specBoardText_c z W)
        have E3 := Lib.hid (fun W => implIsPlatform_c z W)
        generalize btV z = TX at *
        generalize plV z = pv at *
        obtain ⟨yz_0, yz_1, yz_2, yz_3, yz_4, yz_5⟩ := blk_cell6 Kz.out
        have hlz := blk_lt Kz.out
        go_wp2_with fail
        refine (E1.out _ (HTB.out _ t76)).mono ?_
        rintro e W77 ⟨rfl, b77⟩
        clear yz_0 yz_1 yz_2 yz_3 yz_4 yz_5 hlz
        have Kz := Lib.hid (blk_kept Kz.out b77)
        have t78 := t76.trans (b77.mono t76.size)
        clear t76
        clear b77
        obtain ⟨yz_0, yz_1, yz_2, yz_3, yz_4, yz_5⟩ := blk_cell6 Kz.out
        have hlz := blk_lt Kz.out
        go_wp2_with fail
        refine (E2.out _).mono ?_
        rintro e W79 ⟨rfl, b79⟩
        clear yz_0 yz_1 yz_2 yz_3 yz_4 yz_5 hlz
        have Kz := Lib.hid (blk_kept Kz.out b79)
        have t80 := t78.trans (b79.mono t78.size)
        clear t78
        clear b79
        have g1 : (pv == pv) = true := by simp
        have g2 : (TX.toList == TX.toList) = true := by simp
        obtain ⟨yz_0, yz_1, yz_2, yz_3, yz_4, yz_5⟩ := blk_cell6 Kz.out
        have hlz := blk_lt Kz.out
        go_wp2_with fail
        refine (E3.out _).mono ?_
        rintro e W81 ⟨rfl, b81⟩
        clear yz_0 yz_1 yz_2 yz_3 yz_4 yz_5 hlz
        have Kz := Lib.hid (blk_kept Kz.out b81)
        have t82 := t80.trans (b81.mono t80.size)
        clear t80
        clear b81
        go_wp2
        go_ret
        exact ⟨by first | rfl | (simp; done), t82⟩
end Go.Proofs.YtinlcbljpclccaaDoor
