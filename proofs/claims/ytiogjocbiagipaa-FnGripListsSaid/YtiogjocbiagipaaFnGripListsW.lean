/- The law FnGripLists's walk. Condition: sizes. -/
import Derived.Test.YtiogjocbiagipaaDrawG3
import Derived.Test.YtiogjocbiagipaaGrpLaw2
import Derived.Test.YtiogjocbiagipaaGrpBack
import Derived.WalkArith
import Derived.Deep.CutRange
import Derived.Deep.CutBlock
import Derived.Deep.DeepCutAuto
namespace Go.Proofs.Ytiogjocbiagipaa
open Go.RowKit
set_option linter.unusedVariables false
set_option maxRecDepth 100000 in
set_option maxHeartbeats 16000000 in
theorem FnGripLists_walk (a : Option Addr) (len cap : Nat) (w : World) (h : ByteRow w a len) :
    Calls Try.prog 4 #[.slice a len cap] w fun e w' => e = .returned (.bool true) ∧ Below w.heap.size w w' := by
  have hm := h.1
  have HC := Lib.hid h
  clear h
  by_cases hbig : 65536 < len
  · go_enter Try.func4, Try.ntmps4
    go_wp2_with fail
    refine (rBig_yes a len cap _ hbig hm).mono ?_
    rintro e w' ⟨rfl, rfl⟩
    go_wp2_with fail
    go_ret
    exact ⟨rfl, Below.refl _ _⟩
  · go_enter Try.func4, Try.ntmps4
    go_wp2_with fail
    refine (rBig_no a len cap _ (by omega)).mono ?_
    rintro e w' ⟨rfl, rfl⟩
    have T0 := Lib.hid (Below.refl w.heap.size w)
    have HCode1 := Lib.hid (HC.out.below T0.out)
    go_wp2_with fail
    refine (DrawAllHold_any a len cap _ HCode1.out).mono ?_
    rintro e X1 ⟨v1, l1, u1, r1, s1, rfl, hr, hu, hl1, hr1, hs1, hb⟩
    have T1 := Lib.hid (T0.out.trans (hb.mono T0.out.size))
    have HR1 := Lib.hid hr
    have HU1 := Lib.hid hu
    have HWs1 := Lib.hid (WalkArith.wf_i64 (n := s1) (by omega))
    clear hb hr hu HCode1
    go_wp2_with fail
    refine (implAllHold_c v1 l1 u1 r1 s1 _ HR1.out (by omega) HU1.out (by omega) HWs1.out).mono ?_
    rintro e Y2 ⟨g, rfl, o2, b2⟩
    have T_2 := Lib.hid (T1.out.trans (b2.mono T1.out.size))
    have R1_2 := Lib.hid (HR1.out.below b2 rfl)
    have U1_2 := Lib.hid (HU1.out.below b2 rfl)
    have Og_2 := Lib.hid o2
    clear b2 o2 T1 HR1 HU1
    go_wp2_with fail
    refine (specAllHold_c v1 l1 u1 r1 s1 _ R1_2.out (by omega) U1_2.out (by omega) HWs1.out).mono ?_
    rintro e Y3 ⟨h, rfl, o3, b3⟩
    have T_3 := Lib.hid (T_2.out.trans (b3.mono T_2.out.size))
    have R1_3 := Lib.hid (R1_2.out.below b3 rfl)
    have U1_3 := Lib.hid (U1_2.out.below b3 rfl)
    have Og_3 := Lib.hid (owns_below Og_2.out b3)
    have Oh_3 := Lib.hid o3
    clear b3 o3 T_2 R1_2 U1_2 Og_2
    go_wp2_with fail
    refine (rInts_c g h (ahR l1 r1 s1) _ (Rd.of_own Og_3.out) (Rd.of_own Oh_3.out)).mono ?_
    rintro e Y4 ⟨rfl, b4⟩
    have T_4 := Lib.hid (T_3.out.trans (b4.mono T_3.out.size))
    have R1_4 := Lib.hid (R1_3.out.below b4 rfl)
    have U1_4 := Lib.hid (U1_3.out.below b4 rfl)
    have Og_4 := Lib.hid (owns_below Og_3.out b4)
    have Oh_4 := Lib.hid (owns_below Oh_3.out b4)
    clear b4 T_3 R1_3 U1_3 Og_3 Oh_3
    have HLA := Lib.hid (fun h => ah_law (l := l1) (r := r1) (s := s1) h)
    have hAl := ahR_len l1 r1 s1
    generalize ahOk l1 r1 s1 = ok at *
    generalize ahR l1 r1 s1 = AR at *
    obtain ⟨ao, ba, oa, ca, hv, hao, hat⟩ := R1_4.out.form_Grp
    subst hv
    obtain ⟨bo, bb, ob, cb, hv, hbo⟩ := U1_4.out.form_i
    subst hv
    have HAO := Lib.hid hao
    have HAT := Lib.hid hat
    have HBO := Lib.hid hbo
    clear hao hat hbo
    go_upto_block 0 with fail
    go_cut [10] from 10 to 95 (fun i wx => Hid (Below Y4.heap.size Y4 wx))
    case first =>
      as_aux_lemma =>
      cases ok with
      | false =>
        go_wp2
        go_loopw [10] (fun i wr => i = .int .i64 0 ∧ wr = Y4) (fun _ _ => 0)
        case atStart => exact ⟨rfl, rfl⟩
        case round =>
          obtain ⟨rfl, rfl⟩ := hrel
          by_cases h0 : 0 < l1.length
          · have h0i : (0 : Int) < (l1.length : Int) := by omega
            go_wp2
            go_meet
            case rel => exact Lib.hid (Below.refl _ _)
          · have h0i : ¬ (0 : Int) < (l1.length : Int) := by omega
            go_wp2
            go_meet
            case rel => exact Lib.hid (Below.refl _ _)
      | true =>
        obtain ⟨_, hrl, hlaw⟩ := HLA.out rfl
        have HLW := Lib.hid hlaw
        have HRL := Lib.hid hrl
        clear hlaw hrl
        go_wp2
        go_loopw [10] (fun i wr => ∃ j : Nat, j ≤ l1.length ∧ i = .int .i64 j ∧ Hid (Below Y4.heap.size Y4 wr)) (fun i _ => l1.length - (intOf i).toNat)
        case atStart => exact ⟨0, Nat.zero_le _, rfl, Lib.hid (Below.refl _ _)⟩
        case round =>
          obtain ⟨j, hj, rfl, HBr⟩ := hrel
          by_cases hlt : j < l1.length
          · obtain ⟨hao, hba, hml⟩ := HAO.out (by omega)
            subst hao
            obtain ⟨hbo, hbb, hmr, hbc⟩ := HBO.out (by have := HRL.out; omega)
            subst hbo
            have hlti : (j : Int) < (l1.length : Int) := by omega
            have hltr : (j : Int) < (r1.length : Int) := by have := HRL.out; omega
            obtain ⟨hdo, hdv, hmem⟩ := HLW.out j hlt
            obtain ⟨c0, c1, c2, c3, c4⟩ := (HAT.out.below HBr.out hba) j hlt
            have d0 := (HBr.out.cell (p := ⟨bb, ob + j, none⟩) hbb).trans (hbc j (by have := HRL.out; omega))
            have hOG := owns_below Og_4.out HBr.out
            have HOG := Lib.hid hOG
            clear hbc hOG
            generalize gth l1 j = D at *
            generalize gth r1 j = X at *
            have E2 := Lib.hid (fun W => implDoesHold_w D X s1 W)
            rw [hdo, hdv] at E2
            have HM := Lib.hid hmem
            clear hdo hdv hmem
            generalize dhB D X s1 = B at *
            have D0' : ∀ x : Aft wr, x.w.cell? ⟨ba, oa + j * 5, none⟩ = some (.int .i64 D.i) := fun x => x.cell c0
            have D1' : ∀ x : Aft wr, x.w.cell? ⟨ba, oa + j * 5 + 1, none⟩ = some (.int .i64 D.s) := fun x => x.cell c1
            have D2' : ∀ x : Aft wr, x.w.cell? ⟨ba, oa + j * 5 + 2, none⟩ = some (.int .i64 D.w) := fun x => x.cell c2
            have D3' : ∀ x : Aft wr, x.w.cell? ⟨ba, oa + j * 5 + 3, none⟩ = some (.int .i64 D.g) := fun x => x.cell c3
            have D4' : ∀ x : Aft wr, x.w.cell? ⟨ba, oa + j * 5 + 4, none⟩ = some (.int .i64 D.p) := fun x => x.cell c4
            have D5' : ∀ x : Aft wr, x.w.cell? ⟨bb, ob + j, none⟩ = some (.int .i64 X) := fun x => x.cell d0
            clear c0 c1 c2 c3 c4 d0
            go_wp2_with fail
            refine wp_region_aft (w0 := wr) (by kernel_rfl) (by kernel_rfl) (Below.refl _ _) ?_
            repeat (go_big_quiet_step ((go_at_call 19; exact aft_of (E2.out _))))
            refine wpQuiet_nil ?_
            rintro _ ⟨x, rfl⟩
            have c0 := D0' x
            have HBx := Lib.hid (HBr.out.trans (x.below.mono HBr.out.size))
            have HOx := Lib.hid (owns_below HOG.out x.below)
            clear D0' D1' D2' D3' D4' D5'
            generalize x.w = wx at *
            cases B with
            | true =>
              go_wp2_with fail
              refine (rHas_b g AR D.i false _ (Rd.of_own HOx.out) (by omega) (by rw [HM.out] <;> simp)).mono ?_
              rintro e w9 ⟨rfl, b9⟩
              have HB9 := Lib.hid (HBx.out.trans (b9.mono HBx.out.size))
              clear b9 c0
              go_wp2
              go_roundw
              case rel => exact ⟨j + 1, by omega, by go_num, HB9⟩
              case measure => simp [intOf]; omega
            | false =>
              go_wp2_with fail
              refine (rHas_b g AR D.i true _ (Rd.of_own HOx.out) (by omega) (by rw [HM.out] <;> simp)).mono ?_
              rintro e w9 ⟨rfl, b9⟩
              have HB9 := Lib.hid (HBx.out.trans (b9.mono HBx.out.size))
              clear b9 c0
              go_wp2
              go_roundw
              case rel => exact ⟨j + 1, by omega, by go_num, HB9⟩
              case measure => simp [intOf]; omega
          · have hlti : ¬ (j : Int) < (l1.length : Int) := by omega
            go_wp2
            go_meet
            case rel => exact HBr
    case rest =>
      have TA := Lib.hid (T_4.out.trans (hcut.out.mono T_4.out.size))
      have HRA := Lib.hid (R1_4.out.below hcut.out rfl)
      have HLG : Hid (ok = true → grpL l1 = true) := Lib.hid (fun h => (HLA.out h).1)
      clear hcut HLA HAO HAT HBO T_4 R1_4 U1_4 Og_4 Oh_4
      have HCode5 := Lib.hid (HC.out.below TA.out)
      go_wp2_with fail
      refine (DrawOpenGrip_any a len cap _ HCode5.out).mono ?_
      rintro e X5 ⟨v5, l5, n5, t5, rfl, hr, hl5, hn5, ht5, hb⟩
      have T5 := Lib.hid (TA.out.trans (hb.mono TA.out.size))
      have HR5 := Lib.hid hr
      have HRA5 := Lib.hid (HRA.out.below hb rfl)
      have HWn5 := Lib.hid (WalkArith.wf_i64 (n := n5) (by omega))
      have HWt5 := Lib.hid (WalkArith.wf_i64 (n := t5) (by omega))
      clear hb hr HCode5 HRA
      go_wp2_with fail
      refine (implOpenGrip_c v5 l5 n5 t5 _ HR5.out (by omega) HWn5.out HWt5.out).mono ?_
      rintro e Y6 ⟨p, rfl, o6, b6⟩
      have T_6 := Lib.hid (T5.out.trans (b6.mono T5.out.size))
      have R5_6 := Lib.hid (HR5.out.below b6 rfl)
      have RA_6 := Lib.hid (HRA5.out.below b6 rfl)
      have Op_6 := Lib.hid o6
      clear b6 o6 T5 HR5 HRA5
      go_wp2_with fail
      refine (specOpenGrip_c v5 l5 n5 t5 _ R5_6.out (by omega) HWn5.out HWt5.out).mono ?_
      rintro e Y7 ⟨q, rfl, o7, b7⟩
      have T_7 := Lib.hid (T_6.out.trans (b7.mono T_6.out.size))
      have R5_7 := Lib.hid (R5_6.out.below b7 rfl)
      have RA_7 := Lib.hid (RA_6.out.below b7 rfl)
      have Op_7 := Lib.hid (owns_below Op_6.out b7)
      have Oq_7 := Lib.hid o7
      clear b7 o7 T_6 R5_6 RA_6 Op_6
      go_wp2_with fail
      refine (rGrips_same p q (ogR l5 n5 t5) _ (Rs.of_own Op_7.out) (Rs.of_own Oq_7.out)).mono ?_
      rintro e Y8 ⟨rfl, b8⟩
      have T_8 := Lib.hid (T_7.out.trans (b8.mono T_7.out.size))
      have R5_8 := Lib.hid (R5_7.out.below b8 rfl)
      have RA_8 := Lib.hid (RA_7.out.below b8 rfl)
      have Op_8 := Lib.hid (owns_below Op_7.out b8)
      have Oq_8 := Lib.hid (owns_below Oq_7.out b8)
      clear b8 T_7 R5_7 RA_7 Op_7 Oq_7
      have HOL := Lib.hid (fun j hj => og_law (l := l5) (n := n5) (t := t5) (j := j) hj)
      have hOl := ogR_len l5 n5 t5
      generalize ogR l5 n5 t5 = OR at *
      generalize ogOk l5 n5 t5 = kn at *
      obtain ⟨bo, bb, ob, cb, hv, hbo, hbt⟩ := R5_8.out.form_Grp
      subst hv
      obtain ⟨po, pb, op, cp, hv, hpo, hpt⟩ := own_at5 Op_8.out
      subst hv
      have HBO := Lib.hid hbo
      have HBT := Lib.hid hbt
      have HPO := Lib.hid hpo
      have HPT := Lib.hid hpt
      clear hbo hbt hpo hpt
      go_upto_block 2 with fail
      go_cut [20] from 20 to 150 (fun i wx => Hid (Below Y8.heap.size Y8 wx))
      case first =>
        as_aux_lemma =>
        go_wp2
        go_loopw [20] (fun i wr => ∃ j : Nat, j ≤ OR.length ∧ i = .int .i64 j ∧ Hid (Below Y8.heap.size Y8 wr)) (fun i _ => OR.length - (intOf i).toNat)
        case atStart => exact ⟨0, Nat.zero_le _, rfl, Lib.hid (Below.refl _ _)⟩
        case round =>
          obtain ⟨j, hj, rfl, HBr⟩ := hrel
          by_cases hlt : j < OR.length
          · obtain ⟨hjl, hgb, hoe⟩ := HOL.out j hlt
            obtain ⟨hbo, hbb, hmb⟩ := HBO.out (by omega)
            subst hbo
            obtain ⟨hpo, _, hpb, hmp⟩ := HPO.out (by omega)
            subst hpo
            have hlti : (j : Int) < (OR.length : Int) := by omega
            have hltk : (j : Int) < (l5.length : Int) := by omega
            obtain ⟨c0, _, _, c3, _⟩ := (HPT.out.below HBr.out hpb) j hlt
            obtain ⟨_, _, _, d3, _⟩ := (HBT.out.below HBr.out hbb) j hjl
            have e1 : IntKind.i64.wrap ((gth l5 j).g + 1) = (gth l5 j).g + 1 := IntWalk.i64_in _ (by omega)
            generalize (gth OR j).g = G at *
            generalize (gth OR j).i = I at *
            generalize (gth l5 j).g = H at *
            have D0' : ∀ x : Aft wr, x.w.cell? ⟨pb, op + j * 5, none⟩ = some (.int .i64 I) := fun x => x.cell c0
            have D1' : ∀ x : Aft wr, x.w.cell? ⟨pb, op + j * 5 + 3, none⟩ = some (.int .i64 G) := fun x => x.cell c3
            have D2' : ∀ x : Aft wr, x.w.cell? ⟨bb, ob + j * 5 + 3, none⟩ = some (.int .i64 H) := fun x => x.cell d3
            clear c0 c3 d3
            cases hQ : (I == n5) with
            | true =>
              have t1 : (G == H + 1) = true := by rw [hoe, hQ]
              clear hoe
              go_wp2_with fail
              refine wp_region_aft (w0 := wr) (by kernel_rfl) (by kernel_rfl) (Below.refl _ _) ?_
              repeat (go_big_quiet_step (fail))
              refine wpQuiet_nil ?_
              rintro _ ⟨x, rfl⟩
              have HBx := Lib.hid (HBr.out.trans (x.below.mono HBr.out.size))
              clear D0' D1' D2'
              generalize x.w = wx at *
              go_wp2
              go_roundw
              case rel => exact ⟨j + 1, by omega, by go_num, HBx⟩
              case measure => simp [intOf]; omega
            | false =>
              have t1 : (G == H + 1) = false := by rw [hoe, hQ]
              clear hoe
              go_wp2_with fail
              refine wp_region_aft (w0 := wr) (by kernel_rfl) (by kernel_rfl) (Below.refl _ _) ?_
              repeat (go_big_quiet_step (fail))
              refine wpQuiet_nil ?_
              rintro _ ⟨x, rfl⟩
              have HBx := Lib.hid (HBr.out.trans (x.below.mono HBr.out.size))
              clear D0' D1' D2'
              generalize x.w = wx at *
              go_wp2
              go_roundw
              case rel => exact ⟨j + 1, by omega, by go_num, HBx⟩
              case measure => simp [intOf]; omega
          · have hlti : ¬ (j : Int) < (OR.length : Int) := by omega
            go_wp2
            go_meet
            case rel => exact HBr
      case rest =>
        have TB := Lib.hid (T_8.out.trans (hcut.out.mono T_8.out.size))
        have HRB := Lib.hid (RA_8.out.below hcut.out rfl)
        clear hcut HOL HBO HBT HPO HPT T_8 R5_8 RA_8 Op_8 Oq_8
        have HCode9 := Lib.hid (HC.out.below TB.out)
        go_wp2_with fail
        refine (DrawWeakestGrip_any a len cap _ HCode9.out).mono ?_
        rintro e X9 ⟨v9, l9, rfl, hr, hl9, hb⟩
        have T9 := Lib.hid (TB.out.trans (hb.mono TB.out.size))
        have HR9 := Lib.hid hr
        have HRA9 := Lib.hid (HRB.out.below hb rfl)
        clear hb hr HCode9 HRB
        go_wp2_with fail
        refine (implWeakestGrip_c v9 l9 _ HR9.out (by omega)).mono ?_
        rintro e Y10 ⟨rfl, b10⟩
        have T_10 := Lib.hid (T9.out.trans (b10.mono T9.out.size))
        have R9_10 := Lib.hid (HR9.out.below b10 rfl)
        have RA_10 := Lib.hid (HRA9.out.below b10 rfl)
        clear b10 T9 HR9 HRA9
        go_wp2_with fail
        refine (specWeakestGrip_c v9 l9 _ R9_10.out (by omega)).mono ?_
        rintro e Y11 ⟨rfl, b11⟩
        have T_11 := Lib.hid (T_10.out.trans (b11.mono T_10.out.size))
        have R9_11 := Lib.hid (R9_10.out.below b11 rfl)
        have RA_11 := Lib.hid (RA_10.out.below b11 rfl)
        clear b11 T_10 R9_10 RA_10
        have HWL := Lib.hid (fun h => wg_law (l := l9) h)
        generalize wgOk l9 = tl at *
        generalize wgV l9 = wv at *
        obtain ⟨uo, ub, ou, cu, hv, huo, hut⟩ := R9_11.out.form_Grp
        subst hv
        have HAO := Lib.hid huo
        have HAT := Lib.hid hut
        clear huo hut
        go_upto_block 4 with fail
        go_cut [26] from 26 to 191 (fun wf wx => ∃ W : Int, wf = .int .i64 W ∧ Hid (tl = true → ∀ i, i < l9.length → W ≤ (gth l9 i).s) ∧ wx = Y11)
        case first =>
          as_aux_lemma =>
          cases tl with
          | false =>
            go_wp2
            go_loopw [26, 27] (fun wv i wr => wv = .int .i64 5001 ∧ i = .int .i64 0 ∧ wr = Y11) (fun _ _ _ => 0)
            case atStart => exact ⟨rfl, rfl, rfl⟩
            case round =>
              obtain ⟨rfl, rfl, rfl⟩ := hrel
              by_cases h0 : 0 < l9.length
              · have h0i : (0 : Int) < (l9.length : Int) := by omega
                go_wp2
                go_meet
                case rel => exact ⟨5001, rfl, Lib.hid (fun h => by cases h), rfl⟩
              · have h0i : ¬ (0 : Int) < (l9.length : Int) := by omega
                go_wp2
                go_meet
                case rel => exact ⟨5001, rfl, Lib.hid (fun h => by cases h), rfl⟩
          | true =>
            obtain ⟨b, hb, hval, huniq, hmin, h6⟩ := HWL.out rfl
            have HU := Lib.hid huniq
            have HM := Lib.hid hmin
            have HVL := Lib.hid hval
            clear huniq hmin hval
            go_wp2
            go_loopw [26, 27] (fun wf i wr => ∃ j : Nat, j ≤ l9.length ∧ i = .int .i64 j ∧ wf = .int .i64 (if b < j then (gth l9 b).s else 5001) ∧ wr = Y11) (fun _ i _ => l9.length - (intOf i).toNat)
            case atStart => exact ⟨0, Nat.zero_le _, rfl, rfl, rfl⟩
            case round =>
              obtain ⟨j, hj, rfl, rfl, rfl⟩ := hrel
              by_cases hlt : j < l9.length
              · obtain ⟨hao, hba, hml⟩ := HAO.out (by omega)
                subst hao
                have hlti : (j : Int) < (l9.length : Int) := by omega
                obtain ⟨c0, c1, c2, c3, c4⟩ := HAT.out j hlt
                by_cases hjb : j = b
                · have t1 : ((gth l9 j).i == wv) = true := by rw [HVL.out, hjb]; simp
                  have HE : Hid ((if b < j + 1 then (gth l9 b).s else 5001) = (gth l9 j).s) := Lib.hid (by rw [if_pos (by omega), hjb])
                  clear hjb
                  generalize gth l9 j = G at *
                  go_wp2
                  go_roundw
                  case rel => exact ⟨j + 1, by omega, by go_num, by rw [HE.out], by first | rfl | trivial⟩
                  case measure => simp [intOf]; omega
                · have t1 : ((gth l9 j).i == wv) = false := by rw [HVL.out, beq_eq_false_iff_ne]; exact fun e => hjb (HU.out j hlt e)
                  have HE : Hid ((if b < j + 1 then (gth l9 b).s else 5001) = (if b < j then (gth l9 b).s else 5001)) := Lib.hid (by
                    by_cases h1 : b < j
                    · rw [if_pos h1, if_pos (by omega)]
                    · rw [if_neg h1, if_neg (by omega)])
                  clear hjb
                  generalize gth l9 j = G at *
                  generalize (if b < j then (gth l9 b).s else 5001) = WW at *
                  go_wp2
                  go_roundw
                  case rel => exact ⟨j + 1, by omega, by go_num, by rw [HE.out], by first | rfl | trivial⟩
                  case measure => simp [intOf]; omega
              · have hlti : ¬ (j : Int) < (l9.length : Int) := by omega
                have hjn : j = l9.length := by omega
                have HE : Hid ((if b < j then (gth l9 b).s else 5001) = (gth l9 b).s) := Lib.hid (by rw [if_pos (by omega)])
                generalize (if b < j then (gth l9 b).s else 5001) = WW at *
                go_wp2
                go_meet
                case rel => exact ⟨WW, rfl, Lib.hid (fun _ i hi => by rw [HE.out]; exact HM.out i hi), rfl⟩
        case rest =>
          obtain ⟨W, rfl, HWm, rfl⟩ := hcut
          go_upto_block 6 with fail
          go_cut [28] from 28 to 207 (fun i wx => wx = wc)
          case first =>
            as_aux_lemma =>
            cases tl with
            | false =>
              go_wp2
              go_loopw [28] (fun i wr => i = .int .i64 0 ∧ wr = wc) (fun _ _ => 0)
              case atStart => exact ⟨rfl, rfl⟩
              case round =>
                obtain ⟨rfl, rfl⟩ := hrel
                by_cases h0 : 0 < l9.length
                · have h0i : (0 : Int) < (l9.length : Int) := by omega
                  go_wp2
                  go_meet
                  case rel => rfl
                · have h0i : ¬ (0 : Int) < (l9.length : Int) := by omega
                  go_wp2
                  go_meet
                  case rel => rfl
            | true =>
              have HM := Lib.hid (HWm.out rfl)
              clear HWm
              go_wp2
              go_loopw [28] (fun i wr => ∃ j : Nat, j ≤ l9.length ∧ i = .int .i64 j ∧ wr = wc) (fun i _ => l9.length - (intOf i).toNat)
              case atStart => exact ⟨0, Nat.zero_le _, rfl, rfl⟩
              case round =>
                obtain ⟨j, hj, rfl, rfl⟩ := hrel
                by_cases hlt : j < l9.length
                · obtain ⟨hao, hba, hml⟩ := HAO.out (by omega)
                  subst hao
                  have hlti : (j : Int) < (l9.length : Int) := by omega
                  obtain ⟨c0, c1, c2, c3, c4⟩ := HAT.out j hlt
                  have hmn := HM.out j hlt
                  generalize gth l9 j = G at *
                  have t1 : decide (G.s < W) = false := by simp; omega
                  go_wp2
                  go_roundw
                  case rel => exact ⟨j + 1, by omega, by go_num, by first | rfl | trivial⟩
                  case measure => simp [intOf]; omega
                · have hlti : ¬ (j : Int) < (l9.length : Int) := by omega
                  go_wp2
                  go_meet
                  case rel => rfl
          case rest =>
            subst hcut
            clear HWm HWL HAO HAT R9_11
            have HCode12 := Lib.hid (HC.out.below T_11.out)
            go_wp2_with fail
            refine (DrawIsGrip_any a len cap _ HCode12.out).mono ?_
            rintro e X12 ⟨x12, rfl, hxb12, hb⟩
            unfold Grp.agg
            have HX := box_Grp X12 x12 25 _ rfl (X12.alloc (.cells #[.int .i64 x12.i, .int .i64 x12.s, .int .i64 x12.w, .int .i64 x12.g, .int .i64 x12.p] 25)) (Below.refl _ _)
            have hT := T_11.out.trans (hb.mono T_11.out.size)
            have T9 := Lib.hid (hT.alloc hT.size (.cells #[.int .i64 x12.i, .int .i64 x12.s, .int .i64 x12.w, .int .i64 x12.g, .int .i64 x12.p] 25))
            have HRZ := Lib.hid (Rs.below (RA_11.out.below hb rfl) ((Below.refl _ _).alloc (Nat.le_refl _) (.cells #[.int .i64 x12.i, .int .i64 x12.s, .int .i64 x12.w, .int .i64 x12.g, .int .i64 x12.p] 25)) rfl)
            have hs9 : (X12.alloc (.cells #[.int .i64 x12.i, .int .i64 x12.s, .int .i64 x12.w, .int .i64 x12.g, .int .i64 x12.p] 25)).heap.size = X12.heap.size + 1 := by simp
            clear hb hT HCode12
            have E1 := Lib.hid (fun W => implIsGrip_c x12 W)
            have E2 := Lib.hid (fun W => specIsGrip_c x12 W)
            have E3 := Lib.hid (fun W h => implAreGrips_c (.slice ao l1.length ca) l1 W h (by omega))
            generalize isG x12 = ig at *
            go_upto_region 41 with fail
            generalize X12.alloc (.cells #[.int .i64 x12.i, .int .i64 x12.s, .int .i64 x12.w, .int .i64 x12.g, .int .i64 x12.p] 25) = W9 at *
            have D0' : ∀ x : Aft W9, x.w.cell? ⟨X12.heap.size, 0, none⟩ = some (.int .i64 x12.i) := fun x => x.cell HX.1
            have D1' : ∀ x : Aft W9, x.w.cell? ⟨X12.heap.size, 1, none⟩ = some (.int .i64 x12.s) := fun x => x.cell HX.2.1
            have D2' : ∀ x : Aft W9, x.w.cell? ⟨X12.heap.size, 2, none⟩ = some (.int .i64 x12.w) := fun x => x.cell HX.2.2.1
            have D3' : ∀ x : Aft W9, x.w.cell? ⟨X12.heap.size, 3, none⟩ = some (.int .i64 x12.g) := fun x => x.cell HX.2.2.2.1
            have D4' : ∀ x : Aft W9, x.w.cell? ⟨X12.heap.size, 4, none⟩ = some (.int .i64 x12.p) := fun x => x.cell HX.2.2.2.2
            have HRX := Lib.hid (fun (x : Aft W9) => HRZ.out.below x.below rfl)
            clear HX
            cases ok with
            | false =>
              refine wp_region_aft (w0 := W9) (by kernel_rfl) (by kernel_rfl) (Below.refl _ _) ?_
              repeat (go_big_quiet_step (first | (go_at_call 44; exact aft_of (E1.out _)) | (go_at_call 45; exact aft_of (E2.out _)) | (go_at_call 30; exact aft_of (E3.out _ (HRX.out _))) | fail))
              refine wpQuiet_nil ?_
              rintro _ ⟨x, rfl⟩
              go_wp2
              go_ret
              exact ⟨by first | rfl | (cases ig <;> rfl) | simp, T9.out.trans (x.below.mono T9.out.size)⟩
            | true =>
              rw [HLG.out rfl] at E3
              refine wp_region_aft (w0 := W9) (by kernel_rfl) (by kernel_rfl) (Below.refl _ _) ?_
              repeat (go_big_quiet_step (first | (go_at_call 44; exact aft_of (E1.out _)) | (go_at_call 45; exact aft_of (E2.out _)) | (go_at_call 30; exact aft_of (E3.out _ (HRX.out _))) | fail))
              refine wpQuiet_nil ?_
              rintro _ ⟨x, rfl⟩
              go_wp2
              go_ret
              exact ⟨by first | rfl | (cases ig <;> rfl) | simp, T9.out.trans (x.below.mono T9.out.size)⟩
end Go.Proofs.Ytiogjocbiagipaa
