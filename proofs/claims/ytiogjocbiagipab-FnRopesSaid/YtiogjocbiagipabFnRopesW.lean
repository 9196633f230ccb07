/- The law FnRopes's walk. Condition: sizes. -/
import Derived.Test.YtiogjocbiagipabDrawRopes3
import Derived.Test.YtiogjocbiagipabRopesLaw
import Derived.Test.YtiogjocbiagipabWeightC
import Derived.Test.YtiogjocbiagipabDmgBack
import Derived.WalkArith
import Derived.Deep.CutRange
import Derived.Deep.CutBlock
namespace Go.Proofs.Ytiogjocbiagipab
open Go.RowKit
set_option linter.unusedVariables false
set_option maxRecDepth 100000 in
set_option maxHeartbeats 16000000 in
theorem FnRopes_walk (a : Option Addr) (len cap : Nat) (w : World) (h : ByteRow w a len) :
    Calls Try.prog 3 #[.slice a len cap] w fun e w' => e = .returned (.bool true) ∧ Below w.heap.size w w' := by
  have hm := h.1
  have HC := Lib.hid h
  clear h
  by_cases hbig : 65536 < len
  · go_enter Try.func3, Try.ntmps3
    go_wp2_with fail
    refine (rBig_yes a len cap _ hbig hm).mono ?_
    rintro e w' ⟨rfl, rfl⟩
    go_wp2_with fail
    go_ret
    exact ⟨rfl, Below.refl _ _⟩
  · go_enter Try.func3, Try.ntmps3
    go_wp2_with fail
    refine (rBig_no a len cap _ (by omega)).mono ?_
    rintro e w' ⟨rfl, rfl⟩
    have T0 := Lib.hid (Below.refl w.heap.size w)
    have HCode1 := Lib.hid (HC.out.below T0.out)
    go_wp2_with fail
    refine (DrawWorstWindow_any a len cap _ HCode1.out).mono ?_
    rintro e X1 ⟨x1, v1, l1, y1, rfl, ⟨hr, hl1⟩, hy1, hb⟩
    unfold RK.agg
    have HBX1 := Lib.hid (fun W hh => box_RK X1 x1 25 _ rfl W hh)
    have BX1 := Lib.hid (Below.refl (X1.heap.size + 1) (X1.alloc (.cells #[.int .i64 x1.i, .int .i64 x1.s, .int .i64 x1.w, .int .i64 x1.g, .int .i64 x1.p] 25)))
    have hT := T0.out.trans (hb.mono T0.out.size)
    have T1 := Lib.hid (hT.alloc hT.size (.cells #[.int .i64 x1.i, .int .i64 x1.s, .int .i64 x1.w, .int .i64 x1.g, .int .i64 x1.p] 25))
    have hs1 : (X1.alloc (.cells #[.int .i64 x1.i, .int .i64 x1.s, .int .i64 x1.w, .int .i64 x1.g, .int .i64 x1.p] 25)).heap.size = X1.heap.size + 1 := by simp
    have HR1 := Lib.hid (hr.below ((Below.refl _ _).alloc (Nat.le_refl _) (.cells #[.int .i64 x1.i, .int .i64 x1.s, .int .i64 x1.w, .int .i64 x1.g, .int .i64 x1.p] 25)) rfl)
    have HWy1 := Lib.hid (WalkArith.wf_i64 (n := y1) (by omega))
    clear hb hT HCode1 hr
    obtain ⟨k0, k1, k2, k3, k4⟩ := HBX1.out _ BX1.out
    go_wp2_with fail
    refine (implWorstWindow_c x1 v1 l1 y1 _ HR1.out (by omega) HWy1.out).mono ?_
    rintro e Y2 ⟨rfl, b2⟩
    have T_2 := Lib.hid (T1.out.trans (b2.mono T1.out.size))
    have BX_2 := Lib.hid (BX1.out.trans (b2.mono (by first | exact BX1.out.size | (have := BX1.out.size; omega))))
    have R1_2 := Lib.hid (HR1.out.below b2 rfl)
    clear b2 k0 k1 k2 k3 k4 T1 BX1 HR1
    obtain ⟨k0, k1, k2, k3, k4⟩ := HBX1.out _ BX_2.out
    go_wp2_with fail
    refine (specWorstWindow_c x1 v1 l1 y1 _ R1_2.out (by omega) HWy1.out).mono ?_
    rintro e Y3 ⟨rfl, b3⟩
    have T_3 := Lib.hid (T_2.out.trans (b3.mono T_2.out.size))
    have BX_3 := Lib.hid (BX_2.out.trans (b3.mono (by first | exact BX_2.out.size | (have := BX_2.out.size; omega))))
    have R1_3 := Lib.hid (R1_2.out.below b3 rfl)
    clear b3 k0 k1 k2 k3 k4 T_2 BX_2 R1_2
    obtain ⟨ao, ba, oa, ca, hv, hao, hat⟩ := R1_3.out.form_Dmg
    subst hv
    generalize hokA : wwOk x1 l1 y1 = ok at *
    generalize hA : wwA x1 l1 y1 = AA0 at *
    generalize hM : wwM x1 l1 y1 = MM0 at *
    go_upto_block 0 with fail
    go_cut [12] from 12 to 120 (fun i wx => Hid (Below Y3.heap.size Y3 wx))
    case first =>
      as_aux_lemma =>
        have HAO := Lib.hid hao
        have HAT := Lib.hid hat
        clear hao hat
        cases ok with
        | false =>
          go_wp2
          go_loopw [12] (fun i wr => i = .int .i64 0 ∧ wr = Y3) (fun _ _ => 0)
          case atStart => exact ⟨rfl, rfl⟩
          case round =>
            obtain ⟨rfl, rfl⟩ := hrel
            by_cases h0 : 0 < l1.length
            · have h0i : (0 : Int) < (l1.length : Int) := by omega
              go_wp2
              go_meet
              case rel => exact Lib.hid (Below.refl _ _)
            · have h0i : ¬ (0 : Int) < (l1.length : Int) := by omega
              go_wp2
              go_meet
              case rel => exact Lib.hid (Below.refl _ _)
        | true =>
          obtain ⟨hgood, hyl, hsrt, hne, hA2, hM2⟩ := ww_law hokA
          rw [hA] at hA2
          rw [hM] at hM2
          have HPt := Lib.hid (fun i (hi : i < l1.length) => ww_pt (len := y1) hsrt hi)
          have HBw := Lib.hid (fun i (hi : i < l1.length) => bw_at (k := x1) (len := y1) hgood hsrt hyl hi)
          have HBd := Lib.hid (fun i (hi : i < l1.length) => (hsrt.bd i hi).1)
          have HBd2 := Lib.hid (fun i (hi : i < l1.length) => (hsrt.bd i hi).2.1)
          rw [← hA2, ← hM2] at HPt
          clear hgood hsrt hA hM hA2 hM2 hokA
          go_wp2
          go_loopw [12] (fun i wr => ∃ j : Nat, j ≤ l1.length ∧ i = .int .i64 j ∧ Hid (Below Y3.heap.size Y3 wr)) (fun i _ => l1.length - (intOf i).toNat)
          case atStart => exact ⟨0, Nat.zero_le _, rfl, Lib.hid (Below.refl _ _)⟩
          case round =>
            obtain ⟨j, hj, rfl, HBr⟩ := hrel
            by_cases hlt : j < l1.length
            · obtain ⟨hao, hba, hml⟩ := HAO.out (by omega)
              subst hao
              have hlti : (j : Int) < (l1.length : Int) := by omega
              have hpt := HPt.out j hlt
              have hbw := HBw.out j hlt
              have hf0 := HBd.out j hlt
              have hf1 := HBd2.out j hlt
              have HWf := Lib.hid (WalkArith.wf_i64 (n := (gth l1 j).a) (by omega))
              have c0 := (((HAT.out.below HBr.out hba) j hlt)).1
              have HBXr := Lib.hid (BX_3.out.trans (HBr.out.mono (by first | exact BX_3.out.size | (have := BX_3.out.size; omega))))
              have HRr := Lib.hid (R1_3.out.below HBr.out rfl)
              have HCall := Lib.hid (fun W hW => implBrokenWires_c x1 (.slice (some ⟨ba, oa, none⟩) l1.length ca) l1 (gth l1 j).a y1 W hW (by omega) HWf.out HWy1.out)
              rw [hbw.1, hbw.2] at HCall
              obtain ⟨k0, k1, k2, k3, k4⟩ := HBX1.out _ HBXr.out
              have hbb := brk_nn l1 (gth l1 j).a y1
              clear hbw
              generalize brk l1 (gth l1 j).a y1 (-1) = BK at *
              generalize (gth l1 j).a = AA at *
              have HKS : Hid (∀ W, Below wr.heap.size wr W → Below wr.heap.size wr W ∧ W.cell? ⟨X1.heap.size, 0, none⟩ = some (.int .i64 x1.i) ∧ W.cell? ⟨X1.heap.size, 1, none⟩ = some (.int .i64 x1.s) ∧ W.cell? ⟨X1.heap.size, 2, none⟩ = some (.int .i64 x1.w) ∧ W.cell? ⟨X1.heap.size, 3, none⟩ = some (.int .i64 x1.g) ∧ W.cell? ⟨X1.heap.size, 4, none⟩ = some (.int .i64 x1.p) ∧ W.cell? ⟨ba, oa + j * 3, none⟩ = some (.int .i64 AA)) := Lib.hid (fun W hW => by
                obtain ⟨z0, z1, z2, z3, z4⟩ := HBX1.out _ (HBXr.out.trans (hW.mono (by have := HBXr.out.size; omega)))
                have hbw : ba < wr.heap.size := by have := HBr.out.size; omega
                exact ⟨hW, z0, z1, z2, z3, z4, (hW.cell (p := ⟨ba, oa + j * 3, none⟩) hbw).trans c0⟩)
              have hbw : ba < wr.heap.size := by have := HBr.out.size; omega
              go_wp2_with fail
              go_region_held3 (fun w' => Below wr.heap.size wr w' ∧ w'.cell? ⟨X1.heap.size, 0, none⟩ = some (.int .i64 x1.i) ∧ w'.cell? ⟨X1.heap.size, 1, none⟩ = some (.int .i64 x1.s) ∧ w'.cell? ⟨X1.heap.size, 2, none⟩ = some (.int .i64 x1.w) ∧ w'.cell? ⟨X1.heap.size, 3, none⟩ = some (.int .i64 x1.g) ∧ w'.cell? ⟨X1.heap.size, 4, none⟩ = some (.int .i64 x1.p) ∧ w'.cell? ⟨ba, oa + j * 3, none⟩ = some (.int .i64 AA)) (exact HKS.out _ (by (first | exact Below.refl _ _ | exact below_drewN (Below.refl _ _) _ | (go_split_ands; refine Below.trans ?_ (Below.mono b9 (Below.size (B := wr.heap.size) ?_)) <;> assumption) | (go_split_ands; refine below_drewN ?_ _; assumption) | fail)))
                (first
                | (go_at_call 16; refine (HCall.out _ (HRr.out.below (by first | exact Below.refl _ _ | exact below_drewN (Below.refl _ _) _ | (go_split_ands; assumption) | fail) rfl)).mono ?_; rintro e w9 ⟨rfl, b9⟩))
              have TB9 : Below wr.heap.size wr w9 := by go_split_ands; assumption
              have HB9 := Lib.hid (HBr.out.trans (TB9.mono HBr.out.size))
              have c1 := (TB9.cell (p := ⟨ba, oa + j * 3, none⟩) hbw).trans c0
              have h9s := TB9.size
              have t1 : decide (MM0 < BK) = false := by simp; omega
              by_cases hAe : AA = AA0
              · have t2 : (AA == AA0) = true := by simpa using hAe
                have t3 : BK = MM0 := hpt.2 hAe
                have t4 : (BK == MM0) = true := by simpa using t3
                clear hpt k0 k1 k2 k3 k4 c0 HKS TB9
                clear t3
                go_wp2
                go_roundw
                case rel => exact ⟨j + 1, by omega, by go_num, HB9⟩
                case measure => simp [intOf]; omega
              · have t2 : (AA == AA0) = false := by simpa using hAe
                clear hpt k0 k1 k2 k3 k4 c0 HKS TB9
                go_wp2
                go_roundw
                case rel => exact ⟨j + 1, by omega, by go_num, HB9⟩
                case measure => simp [intOf]; omega
            · have hlti : ¬ (j : Int) < (l1.length : Int) := by omega
              go_wp2
              go_meet
              case rel => exact HBr
    case rest =>
      clear hao hat
      have TB := Lib.hid (T_3.out.trans (hcut.out.mono T_3.out.size))
      clear hcut T_3 BX_3 R1_3
      have HCode4 := Lib.hid (HC.out.below TB.out)
      go_wp2_with fail
      refine (DrawBrokenWires_any a len cap _ HCode4.out).mono ?_
      rintro e X4 ⟨x4, v4, l4, q4, y4, rfl, ⟨hr, hl4⟩, hq4, hy4, hb⟩
      unfold RK.agg
      have HBX4 := Lib.hid (fun W hh => box_RK X4 x4 25 _ rfl W hh)
      have BX4 := Lib.hid (Below.refl (X4.heap.size + 1) (X4.alloc (.cells #[.int .i64 x4.i, .int .i64 x4.s, .int .i64 x4.w, .int .i64 x4.g, .int .i64 x4.p] 25)))
      have hT := TB.out.trans (hb.mono TB.out.size)
      have T4 := Lib.hid (hT.alloc hT.size (.cells #[.int .i64 x4.i, .int .i64 x4.s, .int .i64 x4.w, .int .i64 x4.g, .int .i64 x4.p] 25))
      have hs4 : (X4.alloc (.cells #[.int .i64 x4.i, .int .i64 x4.s, .int .i64 x4.w, .int .i64 x4.g, .int .i64 x4.p] 25)).heap.size = X4.heap.size + 1 := by simp
      have HR4 := Lib.hid (hr.below ((Below.refl _ _).alloc (Nat.le_refl _) (.cells #[.int .i64 x4.i, .int .i64 x4.s, .int .i64 x4.w, .int .i64 x4.g, .int .i64 x4.p] 25)) rfl)
      have HWq4 := Lib.hid (WalkArith.wf_i64 (n := q4) (by omega))
      have HWy4 := Lib.hid (WalkArith.wf_i64 (n := y4) (by omega))
      clear hb hT HCode4 hr
      obtain ⟨k0, k1, k2, k3, k4⟩ := HBX4.out _ BX4.out
      go_wp2_with fail
      refine (implBrokenWires_c x4 v4 l4 q4 y4 _ HR4.out (by omega) HWq4.out HWy4.out).mono ?_
      rintro e Y5 ⟨rfl, b5⟩
      have T_5 := Lib.hid (T4.out.trans (b5.mono T4.out.size))
      have BX_5 := Lib.hid (BX4.out.trans (b5.mono (by first | exact BX4.out.size | (have := BX4.out.size; omega))))
      have R4_5 := Lib.hid (HR4.out.below b5 rfl)
      clear b5 k0 k1 k2 k3 k4 T4 BX4 HR4
      obtain ⟨k0, k1, k2, k3, k4⟩ := HBX4.out _ BX_5.out
      go_wp2_with fail
      refine (specBrokenWires_c x4 v4 l4 q4 y4 _ R4_5.out (by omega) HWq4.out HWy4.out).mono ?_
      rintro e Y6 ⟨rfl, b6⟩
      have T_6 := Lib.hid (T_5.out.trans (b6.mono T_5.out.size))
      have BX_6 := Lib.hid (BX_5.out.trans (b6.mono (by first | exact BX_5.out.size | (have := BX_5.out.size; omega))))
      have R4_6 := Lib.hid (R4_5.out.below b6 rfl)
      clear b6 k0 k1 k2 k3 k4 T_5 BX_5 R4_5
      generalize hfo : bwOk x4 l4 q4 y4 = fo at *
      generalize hfv : bwV x4 l4 q4 y4 = fv at *
      go_upto_region 19 with fail
      go_cut [156] from 152 to 156 (fun tt wx => tt = .bool (fo && decide (1 < y4)) ∧ wx = Y6)
      case first =>
        as_aux_lemma =>
          cases fo with
          | false =>
            go_wp2
            go_meet
            case rel => exact ⟨by rw [Bool.false_and], rfl⟩
          | true =>
            by_cases hy1 : 1 < y4
            · have hd1 : decide (1 < y4) = true := by simpa using hy1
              go_wp2
              go_meet
              case rel => exact ⟨by rw [hd1]; rfl, rfl⟩
            · have hd1 : decide (1 < y4) = false := by simpa using hy1
              go_wp2
              go_meet
              case rel => exact ⟨by rw [hd1]; rfl, rfl⟩
      case rest =>
      obtain ⟨htt, rfl⟩ := hcut
      subst htt
      go_upto_if 156 with fail
      go_cut [23] from 23 to 185 (fun i wx => Hid (Below wc.heap.size wc wx))
      case first =>
        as_aux_lemma =>
          cases fo with
          | false =>
            rw [Bool.false_and]
            go_wp2
            go_meet
            case rel => exact Lib.hid (Below.refl _ _)
          | true =>
          by_cases hy1 : 1 < y4
          case neg =>
            have hd1 : decide (1 < y4) = false := by simpa using hy1
            rw [hd1, Bool.true_and]
            go_wp2
            go_meet
            case rel => exact Lib.hid (Below.refl _ _)
          case pos =>
            have hd1 : decide (1 < y4) = true := by simpa using hy1
            rw [hd1, Bool.true_and]
            obtain ⟨hgood, hqb, hyb, hbv⟩ := bwOk_yes hfo
            rw [hfv] at hbv
            have hV1 := bw_yes (k := x4) (l := l4) (fr := q4) (len := 1) hgood ((inR_iff _ _ _).2 hqb) ((inR_iff _ _ _).2 (by omega))
            have HV2 := Lib.hid (fun hh => (bwOk_yes (k := x4) (l := l4) (fr := q4 + 1) (len := y4 - 1) hh).2.2.2)
            have hsp := brk_split l4 q4 y4 hy1
            rw [← hbv] at hsp
            have hb1 := brk_bd (good_yes hgood).srt q4 1 (-1)
            have hb2 := brk_bd (good_yes hgood).srt (q4 + 1) (y4 - 1) (-1)
            have s1 : IntKind.i64.wrap (q4 + 1) = q4 + 1 := IntWalk.i64_in _ (by omega)
            have s2 : IntKind.i64.wrap (y4 - 1) = y4 - 1 := IntWalk.i64_in _ (by omega)
            have HW1 := Lib.hid (WalkArith.wf_i64 (n := 1) (by omega))
            have HWq1 := Lib.hid (WalkArith.wf_i64 (n := q4 + 1) (by omega))
            have HWy1 := Lib.hid (WalkArith.wf_i64 (n := y4 - 1) (by omega))
            have HCa := Lib.hid (fun W hW => implBrokenWires_c x4 v4 l4 q4 1 W hW (by omega) HWq4.out HW1.out)
            rw [hV1.1, hV1.2] at HCa
            clear hgood hbv hfv hfo hV1 hd1
            have hY0 := Lib.hid (Below.refl wc.heap.size wc)
            obtain ⟨k0, k1, k2, k3, k4⟩ := HBX4.out _ BX_6.out
            go_wp2_with fail
            refine (HCa.out _ R4_6.out).mono ?_
            rintro e Y7 ⟨rfl, b7⟩
            have T_7 := Lib.hid (hY0.out.trans (b7.mono hY0.out.size))
            have BX_7 := Lib.hid (BX_6.out.trans (b7.mono (by first | exact BX_6.out.size | (have := BX_6.out.size; omega))))
            have R4_7 := Lib.hid (R4_6.out.below b7 rfl)
            clear b7 k0 k1 k2 k3 k4 hY0 BX_6 R4_6
            obtain ⟨k0, k1, k2, k3, k4⟩ := HBX4.out _ BX_7.out
            go_wp2_with fail
            refine (implBrokenWires_c x4 v4 l4 (q4 + 1) (y4 - 1) _ R4_7.out (by omega) HWq1.out HWy1.out).mono ?_
            rintro e Y8 ⟨rfl, b8⟩
            have T_8 := Lib.hid (T_7.out.trans (b8.mono T_7.out.size))
            have BX_8 := Lib.hid (BX_7.out.trans (b8.mono (by first | exact BX_7.out.size | (have := BX_7.out.size; omega))))
            have R4_8 := Lib.hid (R4_7.out.below b8 rfl)
            clear b8 k0 k1 k2 k3 k4 T_7 BX_7 R4_7
            cases hc2 : bwOk x4 l4 (q4 + 1) (y4 - 1) with
            | false =>
              go_wp2
              go_meet
              case rel => exact T_8
            | true =>
              have hv2 := HV2.out hc2
              rw [hv2]
              generalize brk l4 q4 1 (-1) = B1 at *
              generalize brk l4 (q4 + 1) (y4 - 1) (-1) = B2 at *
              have s3 : IntKind.i64.wrap (B1 + B2) = fv := by rw [hsp]; rw [← hsp]; exact IntWalk.i64_in _ (by omega)
              have s4 : B1 + B2 = fv := hsp
              clear hsp
              go_wp2
              go_meet
              case rel => exact T_8
      case rest =>
        have TC := Lib.hid (T_6.out.trans (hcut.out.mono T_6.out.size))
        clear hcut T_6 BX_6 R4_6
        have HCodeC := Lib.hid (HC.out.below TC.out)
        go_wp2_with fail
        refine (DrawLightestKind_any a len cap _ HCodeC.out).mono ?_
        rintro e XC ⟨vk, lk, sk, rfl, hr, hlk, hsk, hb⟩
        have TD := Lib.hid (TC.out.trans (hb.mono TC.out.size))
        have HRK := Lib.hid hr
        have HWs := Lib.hid (WalkArith.wf_i64 (n := sk) (by omega))
        clear hr hb HCodeC TC
        go_wp2_with fail
        refine (implLightestKind_c vk lk sk _ HRK.out (by omega) HWs.out).mono ?_
        rintro e Y9 ⟨rfl, b9⟩
        have T_9 := Lib.hid (TD.out.trans (b9.mono TD.out.size))
        have RKs_9 := Lib.hid (HRK.out.below b9 rfl)
        clear b9 TD HRK
        go_wp2_with fail
        refine (specLightestKind_c vk lk sk _ RKs_9.out (by omega) HWs.out).mono ?_
        rintro e Y10 ⟨rfl, b10⟩
        have T_10 := Lib.hid (T_9.out.trans (b10.mono T_9.out.size))
        have RKs_10 := Lib.hid (RKs_9.out.below b10 rfl)
        clear b10 T_9 RKs_9
        generalize hto : liOk lk sk = tl at *
        generalize hlv : liV lk sk = lv at *
        obtain ⟨ao2, ba2, oa2, ca2, hv2, hao2, hat2⟩ := RKs_10.out.form_RK
        subst hv2
        go_upto_block 2 with fail
        go_cut [33] from 33 to 231 (fun wv wx => ∃ W : Int, wv = .int .i64 W ∧ Hid (tl = true → ∀ i, i < lk.length → sk ≤ (gth lk i).p → W ≤ (gth lk i).g) ∧ wx = Y10)
        case first =>
          as_aux_lemma =>
            have HAO := Lib.hid hao2
            have HAT := Lib.hid hat2
            clear hao2 hat2
            cases tl with
            | false =>
              go_wp2
              go_loopw [33, 34] (fun wv i wr => wv = .int .i64 501 ∧ i = .int .i64 0 ∧ wr = Y10) (fun _ _ _ => 0)
              case atStart => exact ⟨rfl, rfl, rfl⟩
              case round =>
                obtain ⟨rfl, rfl, rfl⟩ := hrel
                by_cases h0 : 0 < lk.length
                · have h0i : (0 : Int) < (lk.length : Int) := by omega
                  go_wp2
                  go_meet
                  case rel => exact ⟨501, rfl, Lib.hid (fun h => by cases h), rfl⟩
                · have h0i : ¬ (0 : Int) < (lk.length : Int) := by omega
                  go_wp2
                  go_meet
                  case rel => exact ⟨501, rfl, Lib.hid (fun h => by cases h), rfl⟩
            | true =>
              obtain ⟨b, hb, hval, huniq, hmin, h6⟩ := li_law hto
              rw [hlv] at hval
              have HU := Lib.hid huniq
              have HM := Lib.hid hmin
              have HVL := Lib.hid hval
              clear huniq hmin hval hlv hto
              go_wp2
              go_loopw [33, 34] (fun wv i wr => ∃ j : Nat, j ≤ lk.length ∧ i = .int .i64 j ∧ wv = .int .i64 (if b < j then (gth lk b).g else 501) ∧ wr = Y10) (fun _ i _ => lk.length - (intOf i).toNat)
              case atStart => exact ⟨0, Nat.zero_le _, rfl, rfl, rfl⟩
              case round =>
                obtain ⟨j, hj, rfl, rfl, rfl⟩ := hrel
                by_cases hlt : j < lk.length
                · obtain ⟨hao, hba, hml⟩ := HAO.out (by omega)
                  subst hao
                  have hlti : (j : Int) < (lk.length : Int) := by omega
                  obtain ⟨c0, c1, c2, c3, c4⟩ := HAT.out j hlt
                  by_cases hjb : j = b
                  · have t1 : ((gth lk j).i == lv) = true := by rw [HVL.out, hjb]; simp
                    have HE : Hid ((if b < j + 1 then (gth lk b).g else 501) = (gth lk j).g) := Lib.hid (by rw [if_pos (by omega), hjb])
                    clear hjb
                    generalize gth lk j = G at *
                    go_wp2
                    go_roundw
                    case rel => exact ⟨j + 1, by omega, by go_num, by rw [HE.out], by first | rfl | trivial⟩
                    case measure => simp [intOf]; omega
                  · have t1 : ((gth lk j).i == lv) = false := by rw [HVL.out, beq_eq_false_iff_ne]; exact fun e => hjb (HU.out j hlt e)
                    have HE : Hid ((if b < j + 1 then (gth lk b).g else 501) = (if b < j then (gth lk b).g else 501)) := Lib.hid (by
                      by_cases h1 : b < j
                      · rw [if_pos h1, if_pos (by omega)]
                      · rw [if_neg h1, if_neg (by omega)])
                    clear hjb
                    generalize gth lk j = G at *
                    generalize (if b < j then (gth lk b).g else 501) = WW at *
                    go_wp2
                    go_roundw
                    case rel => exact ⟨j + 1, by omega, by go_num, by rw [HE.out], by first | rfl | trivial⟩
                    case measure => simp [intOf]; omega
                · have hlti : ¬ (j : Int) < (lk.length : Int) := by omega
                  have hjn : j = lk.length := by omega
                  have HE : Hid ((if b < j then (gth lk b).g else 501) = (gth lk b).g) := Lib.hid (by rw [if_pos (by omega)])
                  generalize (if b < j then (gth lk b).g else 501) = WW at *
                  go_wp2
                  go_meet
                  case rel => exact ⟨WW, rfl, Lib.hid (fun _ i hi hp => by rw [HE.out]; exact HM.out i hi hp), rfl⟩
        
        case rest =>
          obtain ⟨W, rfl, HWm, rfl⟩ := hcut
          go_upto_block 4 with fail
          go_cut [35] from 35 to 256 (fun i wx => wx = wc)
          case first =>
            as_aux_lemma =>
              have HAO := Lib.hid hao2
              have HAT := Lib.hid hat2
              clear hao2 hat2
              cases tl with
              | false =>
                go_wp2
                go_loopw [35] (fun i wr => i = .int .i64 0 ∧ wr = wc) (fun _ _ => 0)
                case atStart => exact ⟨rfl, rfl⟩
                case round =>
                  obtain ⟨rfl, rfl⟩ := hrel
                  by_cases h0 : 0 < lk.length
                  · have h0i : (0 : Int) < (lk.length : Int) := by omega
                    go_wp2
                    go_meet
                    case rel => rfl
                  · have h0i : ¬ (0 : Int) < (lk.length : Int) := by omega
                    go_wp2
                    go_meet
                    case rel => rfl
              | true =>
                have HM := Lib.hid (HWm.out rfl)
                clear HWm
                go_wp2
                go_loopw [35] (fun i wr => ∃ j : Nat, j ≤ lk.length ∧ i = .int .i64 j ∧ wr = wc) (fun i _ => lk.length - (intOf i).toNat)
                case atStart => exact ⟨0, Nat.zero_le _, rfl, rfl⟩
                case round =>
                  obtain ⟨j, hj, rfl, rfl⟩ := hrel
                  by_cases hlt : j < lk.length
                  · obtain ⟨hao, hba, hml⟩ := HAO.out (by omega)
                    subst hao
                    have hlti : (j : Int) < (lk.length : Int) := by omega
                    obtain ⟨c0, c1, c2, c3, c4⟩ := HAT.out j hlt
                    have hmj := HM.out j hlt
                    generalize gth lk j = G at *
                    by_cases hp : sk ≤ G.p
                    · have hmj2 := hmj hp
                      have d1 : decide (sk ≤ G.p) = true := by simpa using hp
                      have d2 : decide (G.g < W) = false := by simp; omega
                      clear hmj hmj2 hp
                      go_wp2
                      go_roundw
                      case rel => exact ⟨j + 1, by omega, by go_num, by first | rfl | trivial⟩
                      case measure => simp [intOf]; omega
                    · have d1 : decide (sk ≤ G.p) = false := by simpa using hp
                      clear hmj hp
                      go_wp2
                      go_roundw
                      case rel => exact ⟨j + 1, by omega, by go_num, by first | rfl | trivial⟩
                      case measure => simp [intOf]; omega
                  · have hlti : ¬ (j : Int) < (lk.length : Int) := by omega
                    go_wp2
                    go_meet
                    case rel => rfl
          case rest =>
            have hcut := hcut
            subst hcut
            clear hao2 hat2 HWm
            have HCodeD := Lib.hid (HC.out.below T_10.out)
            go_wp2_with fail
            refine (DrawRopeWeight_any a len cap _ HCodeD.out).mono ?_
            rintro e XD ⟨xd, qd, rfl, hqd, hb⟩
            unfold RK.agg
            have HBX0 := Lib.hid (fun W hh => box_RK XD xd 25 _ rfl W hh)
            have BXD := Lib.hid (Below.refl (XD.heap.size + 1) (XD.alloc (.cells #[.int .i64 xd.i, .int .i64 xd.s, .int .i64 xd.w, .int .i64 xd.g, .int .i64 xd.p] 25)))
            have hT := T_10.out.trans (hb.mono T_10.out.size)
            have TDD := Lib.hid (hT.alloc hT.size (.cells #[.int .i64 xd.i, .int .i64 xd.s, .int .i64 xd.w, .int .i64 xd.g, .int .i64 xd.p] 25))
            have hsD : (XD.alloc (.cells #[.int .i64 xd.i, .int .i64 xd.s, .int .i64 xd.w, .int .i64 xd.g, .int .i64 xd.p] 25)).heap.size = XD.heap.size + 1 := by simp
            have HRD := Lib.hid ((RKs_10.out.below hb rfl).below ((Below.refl _ _).alloc (Nat.le_refl _) (.cells #[.int .i64 xd.i, .int .i64 xd.s, .int .i64 xd.w, .int .i64 xd.g, .int .i64 xd.p] 25)) rfl)
            have HWqd := Lib.hid (WalkArith.wf_i64 (n := qd) (by omega))
            clear hb hT HCodeD T_10 RKs_10
            obtain ⟨k0, k1, k2, k3, k4⟩ := HBX0.out _ BXD.out
            go_wp2_with fail
            refine (implRopeWeight_c xd qd _ HWqd.out).mono ?_
            rintro e Y11 ⟨rfl, b11⟩
            have T_11 := Lib.hid (TDD.out.trans (b11.mono TDD.out.size))
            have BX_11 := Lib.hid (BXD.out.trans (b11.mono (by first | exact BXD.out.size | (have := BXD.out.size; omega))))
            have RKs_11 := Lib.hid (HRD.out.below b11 rfl)
            clear b11 k0 k1 k2 k3 k4 TDD BXD HRD
            obtain ⟨k0, k1, k2, k3, k4⟩ := HBX0.out _ BX_11.out
            go_wp2_with fail
            refine (specRopeWeight_c xd qd _ HWqd.out).mono ?_
            rintro e Y12 ⟨rfl, b12⟩
            have T_12 := Lib.hid (T_11.out.trans (b12.mono T_11.out.size))
            have BX_12 := Lib.hid (BX_11.out.trans (b12.mono (by first | exact BX_11.out.size | (have := BX_11.out.size; omega))))
            have RKs_12 := Lib.hid (RKs_11.out.below b12 rfl)
            clear b12 k0 k1 k2 k3 k4 T_11 BX_11 RKs_11
            go_wp2_with fail
            refine (implAreRopeKinds_c (.slice ao2 lk.length ca2) lk _ RKs_12.out (by omega)).mono ?_
            rintro e Y13 ⟨rfl, b13⟩
            have T_13 := Lib.hid (T_12.out.trans (b13.mono T_12.out.size))
            have BX_13 := Lib.hid (BX_12.out.trans (b13.mono (by first | exact BX_12.out.size | (have := BX_12.out.size; omega))))
            have RKs_13 := Lib.hid (RKs_12.out.below b13 rfl)
            clear b13 T_12 BX_12 RKs_12
            go_wp2_with fail
            refine (specAreRopeKinds_c (.slice ao2 lk.length ca2) lk _ RKs_13.out (by omega)).mono ?_
            rintro e Y14 ⟨rfl, b14⟩
            have T_14 := Lib.hid (T_13.out.trans (b14.mono T_13.out.size))
            have BX_14 := Lib.hid (BX_13.out.trans (b14.mono (by first | exact BX_13.out.size | (have := BX_13.out.size; omega))))
            have RKs_14 := Lib.hid (RKs_13.out.below b14 rfl)
            clear b14 T_13 BX_13 RKs_13
            go_wp2
            go_ret
            exact ⟨rfl, T_14.out⟩
end Go.Proofs.Ytiogjocbiagipab
