/- The law FnLoads's walk. Condition: sizes; the library's table is as laid. -/
import Derived.Test.YthmoogkllpcebaaDoorBrkLaw
import Derived.Test.YthmoogkllpcebaaDoorDrawDrvs
import Derived.WalkArith
import Derived.Deep.CutRange
import Derived.Deep.CutBlock
import Derived.Deep.DeepCutAuto
namespace Go.Proofs.YthmoogkllpcebaaDoor
open Go.RowKit
set_option linter.unusedVariables false
set_option maxRecDepth 100000 in
set_option maxHeartbeats 4000000 in
theorem FnLoads_walk (a : Option Addr) (len cap : Nat) (w : World) (h : ByteRow w a len) (ht : BruP w) :
    Calls Tryd.prog 4 #[.slice a len cap] w fun e w' => e = .returned (.bool true) ∧ Below w.heap.size w w' := by
  have hm := h.1
  have HC := Lib.hid h
  have HTT := Lib.hid ht
  clear h ht
  by_cases hbig : 65536 < len
  · go_enter Tryd.func4, Tryd.ntmps4
    go_wp2_with fail
    refine (vBig_yes a len cap _ hbig hm).mono ?_
    rintro e w' ⟨rfl, rfl⟩
    go_wp2_with fail
    go_ret
    exact ⟨rfl, Below.refl _ _⟩
  · go_enter Tryd.func4, Tryd.ntmps4
    go_wp2_with fail
    refine (vBig_no a len cap _ (by omega)).mono ?_
    rintro e w' ⟨rfl, rfl⟩
    have T0 := Lib.hid (Below.refl w.heap.size w)
    have HCode1 := Lib.hid (HC.out.below T0.out)
    go_wp2_with fail
    refine (DrawSafeSpeed_any a len cap _ HCode1.out).mono ?_
    rintro e X1 ⟨M1, P1, v1, l1, y1, rfl, hl1, o1, b1⟩
    clear HCode1
    have T_2 := Lib.hid (T0.out.trans (b1.mono T0.out.size))
    clear b1 T0
    have hn_1 : l1.length ≤ 1048576 := by omega
    obtain ⟨ar1, cr1, rfl⟩ := (Rs.of_own o1).shape
    have Rr1_0 := Lib.hid (Rs.of_own o1)
    clear o1
    have Rr1_3 := Lib.hid (Rr1_0.out.below ((Below.refl X1.heap.size X1).alloc (Nat.le_refl _) (.cells #[.int .i64 M1, .int .i64 P1, .slice ar1 l1.length cr1] 26)) rfl)
    have T_3 := Lib.hid (T_2.out.alloc T_2.out.size (.cells #[.int .i64 M1, .int .i64 P1, .slice ar1 l1.length cr1] 26))
    have K1_3 := Lib.hid (blk_new3 X1 (.int .i64 M1) (.int .i64 P1) (.slice ar1 l1.length cr1) 26)
    clear Rr1_0 T_2
    obtain ⟨k10, k11, k12⟩ := blk_cell3 K1_3.out
    go_wp2_with fail
    clear k10 k11 k12
    generalize hW4 : X1.alloc (.cells #[.int .i64 M1, .int .i64 P1, .slice ar1 l1.length cr1] 26) = Z4 at *
    clear hW4
    refine (implSafeSpeed_c M1 P1 (.slice ar1 l1.length cr1) l1 y1 _ Rr1_3.out hn_1 (HTT.out.below T_3.out)).mono ?_
    rintro e Y5 ⟨rfl, b5⟩
    have K1_6 := Lib.hid (blk_kept K1_3.out b5)
    have Rr1_6 := Lib.hid (Rr1_3.out.below b5 rfl)
    have T_6 := Lib.hid (T_3.out.trans (b5.mono T_3.out.size))
    clear b5 K1_3 Rr1_3 T_3
    obtain ⟨k10, k11, k12⟩ := blk_cell3 K1_6.out
    go_wp2_with fail
    clear k10 k11 k12
    refine (specSafeSpeed_c M1 P1 (.slice ar1 l1.length cr1) l1 y1 _ Rr1_6.out hn_1).mono ?_
    rintro e Y7 ⟨rfl, b7⟩
    have K1_8 := Lib.hid (blk_kept K1_6.out b7)
    have Rr1_8 := Lib.hid (Rr1_6.out.below b7 rfl)
    have T_8 := Lib.hid (T_6.out.trans (b7.mono T_6.out.size))
    clear b7 K1_6 Rr1_6 T_6
    have hsb := ss_bd M1 P1 l1 y1
    have HSK := Lib.hid (fun (v : Nat) h1 h => ss_keeps (L := M1) (S := P1) (l := l1) (y := y1) (v := v) h1 h)
    generalize ssV M1 P1 l1 y1 = sv at *
    generalize ssOk M1 P1 l1 y1 = so at *
    obtain ⟨k10, k11, k12⟩ := blk_cell3 K1_8.out
    go_wp2
    clear k10 k11 k12
    go_loopw [9] (fun i wr => ∃ kk : Nat, 1 ≤ kk ∧ (kk : Int) ≤ sv + 1 ∧ i = .int .i64 (kk : Int) ∧ Hid (Below Y7.heap.size Y7 wr)) (fun i _ => (sv + 1 - intOf i).toNat)
    case atStart => exact ⟨1, by omega, by omega, rfl, Lib.hid (Below.refl _ _)⟩
    case round =>
      obtain ⟨kk, hk1, hk, rfl, hbl⟩ := hrel
      have bq := hbl.out
      have K1_9 := Lib.hid (blk_kept K1_8.out bq)
      have Rr1_9 := Lib.hid (Rr1_8.out.below bq rfl)
      have T_9 := Lib.hid (T_8.out.trans (bq.mono T_8.out.size))
      clear bq K1_8 Rr1_8 T_8
      by_cases hlt : (kk : Int) ≤ sv
      · skip
        have t1 : decide ((kk : Int) ≤ sv) = true := decide_eq_true hlt
        obtain ⟨s1, s2⟩ := HSK.out kk hk1 hlt
        have EB := Lib.hid (fun W h h2 => implBrakeWay_c M1 P1 (.slice ar1 l1.length cr1) l1 (kk : Int) W h hn_1 h2)
        rw [s1] at EB
        generalize wy10 M1 P1 l1 (kk : Int) (full10 l1.length) = wq at *
        have t2 : decide (y1 < wq) = false := decide_eq_false (by omega)
        have q1 : IntKind.i64.wrap ((kk : Int) + 1) = (kk : Int) + 1 := IntWalk.i64_in _ (by omega)
        clear s1 s2 HSK
        obtain ⟨k10, k11, k12⟩ := blk_cell3 K1_9.out
        go_wp2_with fail
        clear k10 k11 k12
        refine (EB.out _ Rr1_9.out (HTT.out.below T_9.out)).mono ?_
        rintro e Y10 ⟨rfl, b10⟩
        have HB10 := Lib.hid (hbl.out.trans (b10.mono hbl.out.size))
        clear b10 EB
        go_wp2
        go_roundw
        case rel => exact ⟨kk + 1, by omega, by omega, by go_num, HB10⟩
        case measure => simp [intOf]; omega
      · skip
        have t1 : decide ((kk : Int) ≤ sv) = false := decide_eq_false hlt
        clear HSK hbl
        clear K1_9 Rr1_9
        have HCode10 := Lib.hid (HC.out.below T_9.out)
        go_wp2_with fail
        refine (DrawWorstPull_any a len cap _ HCode10.out).mono ?_
        rintro e X10 ⟨M2, P2, v2, l2, x2, lo2, hi2, rfl, hl10, o10, b10⟩
        clear HCode10
        have T_11 := Lib.hid (T_9.out.trans (b10.mono T_9.out.size))
        clear b10 T_9
        have hn_2 : l2.length ≤ 1048576 := by omega
        obtain ⟨ar2, cr2, rfl⟩ := (Rs.of_own o10).shape
        have Rr2_0 := Lib.hid (Rs.of_own o10)
        clear o10
        have Rr2_12 := Lib.hid (Rr2_0.out.below ((Below.refl X10.heap.size X10).alloc (Nat.le_refl _) (.cells #[.int .i64 M2, .int .i64 P2, .slice ar2 l2.length cr2] 26)) rfl)
        have T_12 := Lib.hid (T_11.out.alloc T_11.out.size (.cells #[.int .i64 M2, .int .i64 P2, .slice ar2 l2.length cr2] 26))
        have K2_12 := Lib.hid (blk_new3 X10 (.int .i64 M2) (.int .i64 P2) (.slice ar2 l2.length cr2) 26)
        clear Rr2_0 T_11
        obtain ⟨k20, k21, k22⟩ := blk_cell3 K2_12.out
        go_wp2_with fail
        clear k20 k21 k22
        generalize hW13 : X10.alloc (.cells #[.int .i64 M2, .int .i64 P2, .slice ar2 l2.length cr2] 26) = Z13 at *
        clear hW13
        refine (implWorstPull_c M2 P2 (.slice ar2 l2.length cr2) l2 x2 lo2 hi2 _ Rr2_12.out hn_2 (HTT.out.below T_12.out)).mono ?_
        rintro e Y14 ⟨rfl, b14⟩
        have K2_15 := Lib.hid (blk_kept K2_12.out b14)
        have Rr2_15 := Lib.hid (Rr2_12.out.below b14 rfl)
        have T_15 := Lib.hid (T_12.out.trans (b14.mono T_12.out.size))
        clear b14 K2_12 Rr2_12 T_12
        obtain ⟨k20, k21, k22⟩ := blk_cell3 K2_15.out
        go_wp2_with fail
        clear k20 k21 k22
        refine (specWorstPull_c M2 P2 (.slice ar2 l2.length cr2) l2 x2 lo2 hi2 _ Rr2_15.out hn_2).mono ?_
        rintro e Y16 ⟨rfl, b16⟩
        have K2_17 := Lib.hid (blk_kept K2_15.out b16)
        have Rr2_17 := Lib.hid (Rr2_15.out.below b16 rfl)
        have T_17 := Lib.hid (T_15.out.trans (b16.mono T_15.out.size))
        clear b16 K2_15 Rr2_15 T_15
        have HWK := Lib.hid (fun h => wp_keeps (L := M2) (S := P2) (l := l2) (x := x2) (lo := lo2) (hi := hi2) h)
        generalize wpI M2 P2 l2 x2 lo2 hi2 = wi at *
        generalize wpM M2 P2 l2 x2 lo2 hi2 = wm at *
        generalize wpOk M2 P2 l2 x2 lo2 hi2 = wo at *
        obtain ⟨k20, k21, k22⟩ := blk_cell3 K2_17.out
        go_upto_if 123 with fail
        clear k20 k21 k22
        go_cut [] from 22 (fun wy => Hid (Below Y16.heap.size Y16 wy))
        case first =>
          as_aux_lemma =>
          cases wo with
          | false =>
            go_wp2
            go_meet
            case rel => exact Lib.hid (Below.refl _ _)
          | true =>
            have hY := Lib.hid (Below.refl Y16.heap.size Y16)
            have EB := Lib.hid (fun W h h2 => implBrakeWay_c M2 hi2 (.slice ar2 l2.length cr2) l2 x2 W h hn_2 h2)
            obtain ⟨s1, s2, s3, s4⟩ := HWK.out rfl
            rw [s1] at EB
            generalize wy10 M2 hi2 l2 x2 (full10 l2.length) = wq at *
            have t1 : decide (wm < wq) = false := decide_eq_false (by omega)
            have t2 : decide (wi < lo2) = false := decide_eq_false (by omega)
            have t3 : decide (hi2 < wi) = false := decide_eq_false (by omega)
            clear HWK
            obtain ⟨k20, k21, k22⟩ := blk_cell3 K2_17.out
            go_wp2_with fail
            clear k20 k21 k22
            refine (EB.out _ Rr2_17.out (HTT.out.below T_17.out)).mono ?_
            rintro e Yf ⟨rfl, bf⟩
            have hYf := Lib.hid (hY.out.trans (bf.mono hY.out.size))
            clear bf EB s2 s3 s4
            go_wp2
            go_meet
            case rel => exact hYf
        case rest =>
          obtain ⟨wy, hwy⟩ := named10 hcut
          subst hwy
          have b72 := hcut.out
          clear hcut HWK
          clear K2_17 Rr2_17
          have T_18 := Lib.hid (T_17.out.trans (b72.mono T_17.out.size))
          clear b72 T_17
          have HCode19 := Lib.hid (HC.out.below T_18.out)
          go_wp2_with fail
          refine (DrawWorstLoss_any a len cap _ HCode19.out).mono ?_
          rintro e X19 ⟨M3, P3, v3, l3, x3, rfl, hl19, o19, b19⟩
          clear HCode19
          have T_20 := Lib.hid (T_18.out.trans (b19.mono T_18.out.size))
          clear b19 T_18
          have hn_3 : l3.length ≤ 1048576 := by omega
          obtain ⟨ar3, cr3, rfl⟩ := (Rs.of_own o19).shape
          have Rr3_0 := Lib.hid (Rs.of_own o19)
          clear o19
          have Rr3_21 := Lib.hid (Rr3_0.out.below ((Below.refl X19.heap.size X19).alloc (Nat.le_refl _) (.cells #[.int .i64 M3, .int .i64 P3, .slice ar3 l3.length cr3] 26)) rfl)
          have T_21 := Lib.hid (T_20.out.alloc T_20.out.size (.cells #[.int .i64 M3, .int .i64 P3, .slice ar3 l3.length cr3] 26))
          have K3_21 := Lib.hid (blk_new3 X19 (.int .i64 M3) (.int .i64 P3) (.slice ar3 l3.length cr3) 26)
          clear Rr3_0 T_20
          obtain ⟨k30, k31, k32⟩ := blk_cell3 K3_21.out
          go_wp2_with fail
          clear k30 k31 k32
          generalize hW22 : X19.alloc (.cells #[.int .i64 M3, .int .i64 P3, .slice ar3 l3.length cr3] 26) = Z22 at *
          clear hW22
          refine (implWorstLoss_c M3 P3 (.slice ar3 l3.length cr3) l3 x3 _ Rr3_21.out hn_3 (HTT.out.below T_21.out)).mono ?_
          rintro e Y23 ⟨rfl, b23⟩
          have K3_24 := Lib.hid (blk_kept K3_21.out b23)
          have Rr3_24 := Lib.hid (Rr3_21.out.below b23 rfl)
          have T_24 := Lib.hid (T_21.out.trans (b23.mono T_21.out.size))
          clear b23 K3_21 Rr3_21 T_21
          obtain ⟨k30, k31, k32⟩ := blk_cell3 K3_24.out
          go_wp2_with fail
          clear k30 k31 k32
          refine (specWorstLoss_c M3 P3 (.slice ar3 l3.length cr3) l3 x3 _ Rr3_24.out hn_3).mono ?_
          rintro e Y25 ⟨rfl, b25⟩
          have K3_26 := Lib.hid (blk_kept K3_24.out b25)
          have Rr3_26 := Lib.hid (Rr3_24.out.below b25 rfl)
          have T_26 := Lib.hid (T_24.out.trans (b25.mono T_24.out.size))
          clear b25 K3_24 Rr3_24 T_24
          have HLK := Lib.hid (fun (i : Nat) h hi => wl_keeps (L := M3) (S := P3) (l := l3) (x := x3) (i := i) h hi)
          generalize wlI M3 P3 l3 x3 = li at *
          generalize wlM M3 P3 l3 x3 = lm at *
          generalize wlOk M3 P3 l3 x3 = lo at *
          obtain ⟨k30, k31, k32⟩ := blk_cell3 K3_26.out
          go_upto_if 184 with fail
          clear k30 k31 k32
          go_cut [] from 32 (fun wz => Hid (Below Y25.heap.size Y25 wz))
          case first =>
            as_aux_lemma =>
            cases lo with
            | false =>
              go_wp2
              go_meet
              case rel => exact Lib.hid (Below.refl _ _)
            | true =>
              obtain ⟨k30, k31, k32⟩ := blk_cell3 K3_26.out
              go_wp2
              clear k30 k31 k32
              go_loopw [32] (fun i wr => ∃ kk : Nat, kk ≤ l3.length ∧ i = .int .i64 (kk : Int) ∧ Hid (Below Y25.heap.size Y25 wr)) (fun i _ => l3.length - (intOf i).toNat)
              case atStart => exact ⟨0, by omega, rfl, Lib.hid (Below.refl _ _)⟩
              case round =>
                obtain ⟨kk, hk, rfl, hbl⟩ := hrel
                have bq := hbl.out
                have K3_27 := Lib.hid (blk_kept K3_26.out bq)
                have Rr3_27 := Lib.hid (Rr3_26.out.below bq rfl)
                have T_27 := Lib.hid (T_26.out.trans (bq.mono T_26.out.size))
                clear bq K3_26 Rr3_26 T_26
                by_cases hlt : kk < l3.length
                · skip
                  obtain ⟨s1, s2⟩ := HLK.out kk (by first | rfl | trivial) hlt
                  have EB := Lib.hid (fun W h h2 => implWayWithout_c M3 P3 (.slice ar3 l3.length cr3) l3 x3 (kk : Int) W h hn_3 h2)
                  rw [s1] at EB
                  generalize wwV M3 P3 l3 x3 (kk : Int) = wq at *
                  have t2 : decide (lm < wq) = false := decide_eq_false (by omega)
                  have q1 : IntKind.i64.wrap ((kk : Int) + 1) = (kk : Int) + 1 := IntWalk.i64_in _ (by omega)
                  clear s1 s2 HLK
                  obtain ⟨k30, k31, k32⟩ := blk_cell3 K3_27.out
                  go_wp2_with fail
                  clear k30 k31 k32
                  refine (EB.out _ Rr3_27.out (HTT.out.below T_27.out)).mono ?_
                  rintro e Yg ⟨rfl, bg⟩
                  have HBg := Lib.hid (hbl.out.trans (bg.mono hbl.out.size))
                  clear bg EB
                  go_wp2
                  go_roundw
                  case rel => exact ⟨kk + 1, by omega, by go_num, HBg⟩
                  case measure => simp [intOf]; omega
                · skip
                  have t1 : decide ((kk : Int) < (l3.length : Int)) = false := by simp; omega
                  obtain ⟨k30, k31, k32⟩ := blk_cell3 K3_27.out
                  go_wp2
                  go_meet
                  case rel => exact hbl
          case rest =>
            obtain ⟨wz, hwz⟩ := named10 hcut
            subst hwz
            have b73 := hcut.out
            clear hcut HLK
            clear K3_26 Rr3_26
            have T_27 := Lib.hid (T_26.out.trans (b73.mono T_26.out.size))
            clear b73 T_26
            have HCode28 := Lib.hid (HC.out.below T_27.out)
            go_wp2_with fail
            refine (DrawHoldsStill_any a len cap _ HCode28.out).mono ?_
            rintro e X28 ⟨M4, P4, v4, l4, rfl, hl28, o28, b28⟩
            clear HCode28
            have T_29 := Lib.hid (T_27.out.trans (b28.mono T_27.out.size))
            clear b28 T_27
            have hn_4 : l4.length ≤ 1048576 := by omega
            obtain ⟨ar4, cr4, rfl⟩ := (Rs.of_own o28).shape
            have Rr4_0 := Lib.hid (Rs.of_own o28)
            clear o28
            have Rr4_30 := Lib.hid (Rr4_0.out.below ((Below.refl X28.heap.size X28).alloc (Nat.le_refl _) (.cells #[.int .i64 M4, .int .i64 P4, .slice ar4 l4.length cr4] 26)) rfl)
            have T_30 := Lib.hid (T_29.out.alloc T_29.out.size (.cells #[.int .i64 M4, .int .i64 P4, .slice ar4 l4.length cr4] 26))
            have K4_30 := Lib.hid (blk_new3 X28 (.int .i64 M4) (.int .i64 P4) (.slice ar4 l4.length cr4) 26)
            clear Rr4_0 T_29
            obtain ⟨k40, k41, k42⟩ := blk_cell3 K4_30.out
            go_wp2_with fail
            clear k40 k41 k42
            generalize hW31 : X28.alloc (.cells #[.int .i64 M4, .int .i64 P4, .slice ar4 l4.length cr4] 26) = Z31 at *
            clear hW31
            refine (implHoldsStill_c M4 P4 (.slice ar4 l4.length cr4) l4 _ Rr4_30.out hn_4 (HTT.out.below T_30.out)).mono ?_
            rintro e Y32 ⟨rfl, b32⟩
            have K4_33 := Lib.hid (blk_kept K4_30.out b32)
            have Rr4_33 := Lib.hid (Rr4_30.out.below b32 rfl)
            have T_33 := Lib.hid (T_30.out.trans (b32.mono T_30.out.size))
            clear b32 K4_30 Rr4_30 T_30
            obtain ⟨k40, k41, k42⟩ := blk_cell3 K4_33.out
            go_wp2_with fail
            clear k40 k41 k42
            refine (specHoldsStill_c M4 P4 (.slice ar4 l4.length cr4) l4 _ Rr4_33.out hn_4).mono ?_
            rintro e Y34 ⟨rfl, b34⟩
            have K4_35 := Lib.hid (blk_kept K4_33.out b34)
            have Rr4_35 := Lib.hid (Rr4_33.out.below b34 rfl)
            have T_35 := Lib.hid (T_33.out.trans (b34.mono T_33.out.size))
            clear b34 K4_33 Rr4_33 T_33
            generalize hsV M4 P4 l4 = hv at *
            generalize drvOk M4 P4 l4 = hk4 at *
            go_wp2
            go_ret
            exact ⟨by simp, T_35.out⟩
end Go.Proofs.YthmoogkllpcebaaDoor
