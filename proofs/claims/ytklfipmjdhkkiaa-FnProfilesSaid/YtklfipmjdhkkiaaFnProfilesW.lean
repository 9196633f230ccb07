/- The law FnProfiles's walk. Condition: sizes. -/
import Derived.Test.YtklfipmjdhkkiaaProfLaw
import Derived.Test.YtklfipmjdhkkiaaProfFS
import Derived.Test.YtklfipmjdhkkiaaProfJ
import Derived.Test.YtklfipmjdhkkiaaProfMax
import Derived.WalkArith
import Derived.Deep.CutRange
import Derived.Deep.CutBlock
import Derived.Deep.DeepCutAuto
namespace Go.Proofs.Ytklfipmjdhkkiaa
open Go.RowKit
set_option linter.unusedVariables false
set_option maxRecDepth 100000 in
set_option maxHeartbeats 4000000 in
theorem FnProfiles_walk (a : Option Addr) (len cap : Nat) (w : World) (h : ByteRow w a len) :
    Calls Try.prog 3 #[.slice a len cap] w fun e w' => e = .returned (.bool true) ∧ Below w.heap.size w w' := by
  have hm := h.1
  have HC := Lib.hid h
  clear h
  by_cases hbig : 65536 < len
  · go_enter Try.func3, Try.ntmps3
    go_wp2_with fail
    refine (vBig_yes a len cap _ hbig hm).mono ?_
    rintro e w' ⟨rfl, rfl⟩
    go_wp2_with fail
    go_ret
    exact ⟨rfl, Below.refl _ _⟩
  · go_enter Try.func3, Try.ntmps3
    go_wp2_with fail
    refine (vBig_no a len cap _ (by omega)).mono ?_
    rintro e w' ⟨rfl, rfl⟩
    have T0 := Lib.hid (Below.refl w.heap.size w)
    have HCode1 := Lib.hid (HC.out.below T0.out)
    go_wp2_with fail
    refine (DrawFastestUnder_any a len cap _ HCode1.out).mono ?_
    rintro e X1 ⟨lv, ll, fr, ac, rfl, ⟨ol, hll⟩, b1⟩
    have T1 := Lib.hid (T0.out.trans (b1.mono T0.out.size))
    clear b1 HCode1 T0
    obtain ⟨la, lc, rfl⟩ := (Rs.of_own ol).shape
    have R1 := Lib.hid (Rd.of_own ol)
    clear ol
    go_wp2_with fail
    refine (implFastestUnder_c _ ll fr ac _ R1.out (by omega)).mono ?_
    rintro e Y2 ⟨g2, rfl, o2, b2⟩
    have T2 := Lib.hid (T1.out.trans (b2.mono T1.out.size))
    have O2 := Lib.hid o2
    have R2 := Lib.hid (R1.out.below b2 rfl)
    clear o2 R1
    clear b2 T1
    go_wp2_with fail
    refine (specFastestUnder_c _ ll fr ac _ R2.out (by omega)).mono ?_
    rintro e Y3 ⟨g3, rfl, o3, b3⟩
    have T3 := Lib.hid (T2.out.trans (b3.mono T2.out.size))
    have O3 := Lib.hid o3
    have O4 := Lib.hid (owns_below O2.out b3)
    have R3 := Lib.hid (R2.out.below b3 rfl)
    clear o3 O2 R2
    clear b3 T2
    have HK := Lib.hid (fun h => fu_keeps (l := ll) (f := fr) (a := ac) h)
    have HLN := Lib.hid (fuR_len ll fr ac)
    obtain ⟨pa, pc, rfl⟩ := (Rs.of_own O4.out).shape
    have A4 := Lib.hid (Rd.of_own O4.out)
    have B4 := Lib.hid (Rd.of_own O3.out)
    clear O3 O4
    generalize fuR ll fr ac = out at *
    generalize fuOk ll fr ac = ok at *
    go_wp2_with fail
    refine (vInts9_c _ _ out _ A4.out B4.out).mono ?_
    rintro e Y4 ⟨rfl, b4⟩
    have T4 := Lib.hid (T3.out.trans (b4.mono T3.out.size))
    have A5 := Lib.hid (A4.out.below b4 rfl)
    have R4 := Lib.hid (R3.out.below b4 rfl)
    clear R3
    clear b4 T3
    clear A4 B4
    go_upto_if 69 with fail
    go_cut [] from 10 (fun wx => Hid (Below Y4.heap.size Y4 wx))
    case first =>
      as_aux_lemma =>
      cases ok with
      | false =>
        go_wp2
        go_meet
        case rel => exact Lib.hid (Below.refl _ _)
      | true =>
        obtain ⟨hle, h0l, hl30, hdk, hdv, hfo, hff, hz, hac, hlb, hob, hmax⟩ := HK.out rfl
        have HA := Lib.hid (fun W h => implDoesKeep_c (.slice pa out.length pc) out ac W h (by omega))
        rw [hdk, hdv] at HA
        have HF := Lib.hid (fun W h => implFastestUnder_c (.slice pa out.length pc) out fr ac W h (by omega))
        rw [hfo, hff] at HF
        have HLB := Lib.hid hlb
        have HOB := Lib.hid hob
        have HMX := Lib.hid hmax
        clear hdk hdv hfo hff hlb hob hmax HK HLN
        obtain ⟨ao, pb, po, pcc, hve, hpo, hpa⟩ := A5.out.formR
        simp only [Value.slice.injEq] at hve
        obtain ⟨rfl, _, rfl⟩ := hve
        obtain ⟨rfl, hpl, _⟩ := hpo (by omega)
        obtain ⟨ao2, lb, lo, lcc, hve, hlo, hla⟩ := R4.out.formR
        simp only [Value.slice.injEq] at hve
        obtain ⟨rfl, _, rfl⟩ := hve
        obtain ⟨rfl, hll2, _⟩ := hlo h0l
        have HPA := Lib.hid hpa
        have HLA := Lib.hid hla
        clear hpo hpa hlo hla
        have hY := Lib.hid (Below.refl Y4.heap.size Y4)
        have HLE := Lib.hid hle
        have h0o : 0 < out.length := by omega
        clear hle
        go_wp2_with fail
        refine (HA.out _ A5.out).mono ?_
        rintro e Y5 ⟨rfl, b5⟩
        have T5 := Lib.hid (hY.out.trans (b5.mono hY.out.size))
        have A6 := Lib.hid (A5.out.below b5 rfl)
        clear b5 HA hY A5
        go_wp2_with fail
        refine (HF.out _ A6.out).mono ?_
        rintro e Y6 ⟨g6, rfl, o6, b6⟩
        have T6 := Lib.hid (T5.out.trans (b6.mono T5.out.size))
        have A7 := Lib.hid (A6.out.below b6 rfl)
        have G7 := Lib.hid (Rd.of_own o6)
        clear b6 HF T5 A6 o6
        have HP6 := Lib.hid (HPA.out.below T6.out hpl)
        have c0 := HP6.out 0 (by omega)
        rw [Nat.add_zero, hz] at c0
        have t0 : (0 : Int) < (out.length : Int) := by omega
        have t1 : ((out.length : Int) != (ll.length : Int)) = false := by rw [HLE.out]; simp
        have t2 : (out.length != ll.length) = false := by rw [HLE.out]; simp
        have t3 : 0 < out.length := by omega
        clear hz
        go_wp2_with fail
        refine (vInts9_c _ _ out _ G7.out A7.out).mono ?_
        rintro e Y7 ⟨rfl, b7⟩
        have T7 := Lib.hid (T6.out.trans (b7.mono T6.out.size))
        have HP7 := Lib.hid (HPA.out.below T7.out hpl)
        have HL7 := Lib.hid (HLA.out.below T7.out hll2)
        clear b7 T6 A7 G7 c0 HP6 HPA HLA R4 t1 t2
        go_wp2
        go_loopw [14] (fun i wr => ∃ k m : Nat, k ≤ out.length ∧ i = .int .i64 (k : Int) ∧ wr = Y7.drewN m) (fun i _ => out.length - (intOf i).toNat)
        case atStart => exact ⟨0, 0, by omega, rfl, rfl⟩
        case round =>
          obtain ⟨k, m, hk, rfl, hwr⟩ := hrel
          have HWR := Lib.hid hwr
          have hle := HLE.out
          by_cases hlt : k < out.length
          · have c0 : wr.cell? ⟨pb, po + k, none⟩ = some (.int .i64 (out.getD k 0)) := by rw [hwr]; exact HP7.out k hlt
            have c1 : wr.cell? ⟨lb, lo + k, none⟩ = some (.int .i64 (ll.getD k 0)) := by rw [hwr]; exact HL7.out k (by omega)
            have hx := HOB.out k (by omega)
            have hy := HLB.out k (by omega)
            have HMK := Lib.hid (fun h => HMX.out k h (by omega))
            have t5 : (k : Int) < (out.length : Int) := by omega
            have t6 : (k : Int) < (ll.length : Int) := by omega
            have t7 : decide (ll.getD k 0 < out.getD k 0) = false := by rw [decide_eq_false_iff_not]; omega
            by_cases hp : 0 < k
            · have t8 : decide ((0 : Int) < (k : Int)) = true := by simp; omega
              have t14 : decide (0 < k) = true := decide_eq_true hp
              have c2 : wr.cell? ⟨pb, po + (k - 1), none⟩ = some (.int .i64 (out.getD (k - 1) 0)) := by rw [hwr]; exact HP7.out (k - 1) (by omega)
              have hx2 := HOB.out (k - 1) (by omega)
              have hy2 := HLB.out (k - 1) (by omega)
              have HC3 : Hid (k + 1 < out.length → wr.cell? ⟨pb, po + (k + 1), none⟩ = some (.int .i64 (out.getD (k + 1) 0)) ∧ 0 ≤ out.getD (k + 1) 0 ∧ out.getD (k + 1) 0 ≤ 100) := Lib.hid (fun h => ⟨by rw [hwr]; exact HP7.out (k + 1) h, (HOB.out (k + 1) (by omega)).1, Int.le_trans (HOB.out (k + 1) (by omega)).2 (HLB.out (k + 1) (by omega)).2⟩)
              have HHP := Lib.hid hp
              obtain ⟨p1, p2, p3⟩ := pred_in k hp (by omega)
              have t9 : (k : Int) - 1 < (out.length : Int) := by omega
              have t10 : (1 : Int) ≤ (k : Int) := by omega
              have t11 : (0 : Int) < (k : Int) := by omega
              have t12 : (k : Int) ≤ (out.length : Int) := by omega
              have t13 : k ≤ out.length := by omega
              clear hwr hle hp h0o
              generalize ll.getD k 0 = L at *
              generalize out.getD (k - 1) 0 = P at *
              generalize out.getD (k + 1) 0 = N at *
              generalize out.getD k 0 = X at *
              have q1 : IntKind.i64.wrap (P + ac) = P + ac := IntWalk.i64_in _ (by omega)
              by_cases h1 : X < L
              · by_cases h2 : X < P + ac
                · obtain ⟨h3, h4⟩ := HMK.out HHP.out h1 (by first | exact h2 | omega)
                  obtain ⟨c3, hn0, hn1⟩ := HC3.out (by have := HLE.out; omega)
                  have q2 : IntKind.i64.wrap (N + ac) = N + ac := IntWalk.i64_in _ (by omega)
                  have u1 : decide (X < L) = true := by simpa using h1
                  have u2 : decide (X < P + ac) = true := by simpa using h2
                  have u3 : decide (X < N + ac) = false := by simpa using h4
                  have hkl : k + 1 < out.length := by have := HLE.out; omega
                  obtain ⟨r1, r2, r3⟩ := succ_in k (by omega)
                  have u4 : ((k : Int) + 1 == (out.length : Int)) = false := by rw [beq_eq_false_iff_ne]; omega
                  have u5 : (k : Int) + 1 < (out.length : Int) := by omega
                  have u6 : ¬ ((k : Int) + 1 = (out.length : Int)) := by omega
                  go_wp2_with fail
                  go_quiet (fail)
                  go_wp2
                  go_roundw
                  case rel => exact ⟨k + 1, m + nq, by omega, by go_num, by rw [HWR.out, World.drewN_drewN]⟩
                  case measure => simp [intOf]; omega
                · have u1 : decide (X < L) = true := by simpa using h1
                  have u2 : decide (X < P + ac) = false := by simpa using h2
                  go_wp2_with fail
                  go_quiet (fail)
                  go_wp2
                  go_roundw
                  case rel => exact ⟨k + 1, m + nq, by omega, by go_num, by rw [HWR.out, World.drewN_drewN]⟩
                  case measure => simp [intOf]; omega
              · have u1 : decide (X < L) = false := by simpa using h1
                go_wp2_with fail
                go_quiet (fail)
                go_wp2
                go_roundw
                case rel => exact ⟨k + 1, m + nq, by omega, by go_num, by rw [HWR.out, World.drewN_drewN]⟩
                case measure => simp [intOf]; omega
            · have t8 : decide ((0 : Int) < (k : Int)) = false := by simp; omega
              have t14 : decide (0 < k) = false := decide_eq_false hp
              clear hwr hle hp h0o
              generalize ll.getD k 0 = L at *
              generalize out.getD k 0 = X at *
              go_wp2_with fail
              go_quiet (fail)
              go_wp2
              go_roundw
              case rel => exact ⟨k + 1, m + nq, by omega, by go_num, by rw [HWR.out, World.drewN_drewN]⟩
              case measure => simp [intOf]; omega
          · have t5 : decide ((k : Int) < (out.length : Int)) = false := by simp; omega
            clear hle h0o
            go_wp2
            go_meet
            case rel => exact Lib.hid (below_drewN T7.out m)
    case rest =>
      clear HK HLN A5 R4
      have TB := Lib.hid (T4.out.trans (hcut.out.mono T4.out.size))
      clear hcut T4
      have HCode8 := Lib.hid (HC.out.below TB.out)
      go_wp2_with fail
      refine (DrawJoinProfiles_any a len cap _ HCode8.out).mono ?_
      rintro e X8 ⟨xv, xl, yv, yl, rfl, ⟨ox, hxl⟩, ⟨oy, hyl⟩, b8⟩
      have T8 := Lib.hid (TB.out.trans (b8.mono TB.out.size))
      clear b8 HCode8 TB
      have RX := Lib.hid (Rd.of_own ox)
      have RY := Lib.hid (Rd.of_own oy)
      have HCY := Lib.hid (own_cap oy)
      clear ox oy
      go_wp2_with fail
      refine (implJoinProfiles_c xv xl yv yl _ RX.out (by omega) RY.out HCY.out (by omega)).mono ?_
      rintro e Y9 ⟨g9, rfl, o9, b9⟩
      have T9 := Lib.hid (T8.out.trans (b9.mono T8.out.size))
      have O9 := Lib.hid o9
      have RX9 := Lib.hid (RX.out.below b9 rfl)
      have RY9 := Lib.hid (RY.out.below b9 rfl)
      clear o9 RX RY
      clear b9 T8
      go_wp2_with fail
      refine (specJoinProfiles_c xv xl yv yl _ RX9.out (by omega) RY9.out HCY.out (by omega)).mono ?_
      rintro e Y10 ⟨g10, rfl, o10, b10⟩
      have T10 := Lib.hid (T9.out.trans (b10.mono T9.out.size))
      have O10 := Lib.hid o10
      have O11 := Lib.hid (owns_below O9.out b10)
      have RX10 := Lib.hid (RX9.out.below b10 rfl)
      have RY10 := Lib.hid (RY9.out.below b10 rfl)
      clear o10 O9 RX9 RY9 HCY
      clear b10 T9
      have HK := Lib.hid (fun h => jn_way (a := xl) (b := yl) h)
      have HLN := Lib.hid (jnR_len xl yl)
      obtain ⟨pa, pc, rfl⟩ := (Rs.of_own O11.out).shape
      have A11 := Lib.hid (Rd.of_own O11.out)
      have B11 := Lib.hid (Rd.of_own O10.out)
      clear O10 O11
      generalize jnR xl yl = both at *
      generalize jnOk xl yl = told at *
      go_wp2_with fail
      refine (vInts9_c _ _ both _ A11.out B11.out).mono ?_
      rintro e Y12 ⟨rfl, b12⟩
      have T12 := Lib.hid (T10.out.trans (b12.mono T10.out.size))
      have A12 := Lib.hid (A11.out.below b12 rfl)
      have RX12 := Lib.hid (RX10.out.below b12 rfl)
      have RY12 := Lib.hid (RY10.out.below b12 rfl)
      clear RX10 RY10
      clear b12 T10
      clear A11 B11
      go_upto_if 204 with fail
      go_cut [] from 21 (fun wx => Hid (Below Y12.heap.size Y12 wx))
      case first =>
        as_aux_lemma =>
        cases told with
        | false =>
          go_wp2
          go_meet
          case rel => exact Lib.hid (Below.refl _ _)
        | true =>
          obtain ⟨h1, h2, h3, h4, h5, h6⟩ := HK.out rfl
          have hln := HLN.out
          have HA := Lib.hid (fun W h => implDoubleWay_c xv xl W h (by omega))
          have HB := Lib.hid (fun W h => implDoubleWay_c yv yl W h (by omega))
          have HD := Lib.hid (fun W h => implDoubleWay_c (.slice pa both.length pc) both W h (by omega))
          rw [h1] at HA
          rw [h2] at HB
          rw [h3, ← h4] at HD
          clear h1 h2 h3 h4 HK HLN
          generalize dwV xl = d1 at *
          generalize dwV yl = d2 at *
          have q1 : IntKind.i64.wrap (d1 + d2) = d1 + d2 := IntWalk.i64_in _ (by omega)
          have hY := Lib.hid (Below.refl Y12.heap.size Y12)
          go_wp2_with fail
          refine (HA.out _ RX12.out).mono ?_
          rintro e Y13 ⟨rfl, b13⟩
          have T13 := Lib.hid (hY.out.trans (b13.mono hY.out.size))
          have RY13 := Lib.hid (RY12.out.below b13 rfl)
          have A13 := Lib.hid (A12.out.below b13 rfl)
          clear b13 HA hY RX12 RY12 A12
          go_wp2_with fail
          refine (HB.out _ RY13.out).mono ?_
          rintro e Y14 ⟨rfl, b14⟩
          have T14 := Lib.hid (T13.out.trans (b14.mono T13.out.size))
          have A14 := Lib.hid (A13.out.below b14 rfl)
          clear b14 HB T13 RY13 A13
          go_wp2_with fail
          refine (HD.out _ A14.out).mono ?_
          rintro e Y15 ⟨rfl, b15⟩
          have T15 := Lib.hid (T14.out.trans (b15.mono T14.out.size))
          clear b15 HD T14 A14
          go_wp2
          go_meet
          case rel => exact T15
      case rest =>
        clear HK HLN A12 RX12 RY12
        have TC := Lib.hid (T12.out.trans (hcut.out.mono T12.out.size))
        clear hcut T12
        have HCode16 := Lib.hid (HC.out.below TC.out)
        go_wp2_with fail
        refine (DrawDoesKeep_any a len cap _ HCode16.out).mono ?_
        rintro e X16 ⟨uv, ul, rc, rfl, ⟨ou, hul⟩, hrc, b16⟩
        have T16 := Lib.hid (TC.out.trans (b16.mono TC.out.size))
        clear b16 HCode16 TC
        have RU := Lib.hid (Rd.of_own ou)
        clear ou
        go_wp2_with fail
        refine (implDoesKeep_c uv ul rc _ RU.out (by omega)).mono ?_
        rintro e Y17 ⟨rfl, b17⟩
        have T17 := Lib.hid (T16.out.trans (b17.mono T16.out.size))
        have RU17 := Lib.hid (RU.out.below b17 rfl)
        clear RU
        clear b17 T16
        go_wp2_with fail
        refine (specDoesKeep_c uv ul rc _ RU17.out (by omega)).mono ?_
        rintro e Y18 ⟨rfl, b18⟩
        have T18 := Lib.hid (T17.out.trans (b18.mono T17.out.size))
        clear RU17
        clear b18 T17
        generalize dkV ul rc = kv at *
        generalize dkOk ul rc = kk at *
        have HCode19 := Lib.hid (HC.out.below T18.out)
        go_wp2_with fail
        refine (DrawSmoothProfile_any a len cap _ HCode19.out).mono ?_
        rintro e X19 ⟨sv, sl, rfl, ⟨os, hsl⟩, b19⟩
        have T19 := Lib.hid (T18.out.trans (b19.mono T18.out.size))
        clear b19 HCode19 T18
        have RS := Lib.hid (Rd.of_own os)
        have HI := Lib.hid (fun W h => implIsProfile_c sv sl W h (by omega))
        clear os
        go_wp2_with fail
        refine (implSmoothProfile_c sv sl _ RS.out (by omega)).mono ?_
        rintro e Y20 ⟨g20, rfl, o20, b20⟩
        have T20 := Lib.hid (T19.out.trans (b20.mono T19.out.size))
        have O20 := Lib.hid o20
        have RS20 := Lib.hid (RS.out.below b20 rfl)
        clear o20 RS
        clear b20 T19
        go_wp2_with fail
        refine (specSmoothProfile_c sv sl _ RS20.out (by omega)).mono ?_
        rintro e Y21 ⟨g21, rfl, o21, b21⟩
        have T21 := Lib.hid (T20.out.trans (b21.mono T20.out.size))
        have O21 := Lib.hid o21
        have O22 := Lib.hid (owns_below O20.out b21)
        have RS21 := Lib.hid (RS20.out.below b21 rfl)
        clear o21 O20 RS20
        clear b21 T20
        generalize p9V sl = kn at *
        generalize smR sl = sm at *
        go_wp2_with fail
        refine (vInts9_c _ _ sm _ (Rd.of_own O22.out) (Rd.of_own O21.out)).mono ?_
        rintro e Y22 ⟨rfl, b22⟩
        have T22 := Lib.hid (T21.out.trans (b22.mono T21.out.size))
        have RS22 := Lib.hid (RS21.out.below b22 rfl)
        clear RS21 O21 O22
        clear b22 T21
        go_wp2_with fail
        refine (HI.out _ RS22.out).mono ?_
        rintro e Y23 ⟨rfl, b23⟩
        have T23 := Lib.hid (T22.out.trans (b23.mono T22.out.size))
        clear b23 T22
        go_wp2
        go_ret
        exact ⟨rfl, T23.out⟩
end Go.Proofs.Ytklfipmjdhkkiaa
