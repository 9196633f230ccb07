/- The law FnStops's walk. Condition: sizes. -/
import Derived.Test.YtklfipmjdhkkiaaProfLaw
import Derived.Test.YtklfipmjdhkkiaaProfW
import Derived.WalkArith
import Derived.Deep.CutRange
import Derived.Deep.CutBlock
import Derived.Deep.DeepCutAuto
namespace Go.Proofs.Ytklfipmjdhkkiaa
open Go.RowKit
set_option linter.unusedVariables false
theorem sf_bd {way a : Int} : 0 ≤ sfV way a ∧ sfV way a ≤ 100 := by
  unfold sfV
  split
  · have := bst_in way a 100
    omega
  · omega
set_option maxRecDepth 100000 in
set_option maxHeartbeats 4000000 in
theorem FnStops_walk (a : Option Addr) (len cap : Nat) (w : World) (h : ByteRow w a len) :
    Calls Try.prog 4 #[.slice a len cap] w fun e w' => e = .returned (.bool true) ∧ Below w.heap.size w w' := by
  have hm := h.1
  have HC := Lib.hid h
  clear h
  by_cases hbig : 65536 < len
  · go_enter Try.func4, Try.ntmps4
    go_wp2_with fail
    refine (vBig_yes a len cap _ hbig hm).mono ?_
    rintro e w' ⟨rfl, rfl⟩
    go_wp2_with fail
    go_ret
    exact ⟨rfl, Below.refl _ _⟩
  · go_enter Try.func4, Try.ntmps4
    go_wp2_with fail
    refine (vBig_no a len cap _ (by omega)).mono ?_
    rintro e w' ⟨rfl, rfl⟩
    have T0 := Lib.hid (Below.refl w.heap.size w)
    have HCode1 := Lib.hid (HC.out.below T0.out)
    go_wp2_with fail
    refine (DrawSpeedFor_any a len cap _ HCode1.out).mono ?_
    rintro e X1 ⟨wy, ac, rfl, hwy, hac, b1⟩
    have T1 := Lib.hid (T0.out.trans (b1.mono T0.out.size))
    clear b1 HCode1 T0
    go_wp2_with fail
    refine (implSpeedFor_c wy ac _).mono ?_
    rintro e Y2 ⟨rfl, b2⟩
    have T2 := Lib.hid (T1.out.trans (b2.mono T1.out.size))
    clear b2 T1
    go_wp2_with fail
    refine (specSpeedFor_c wy ac _).mono ?_
    rintro e Y3 ⟨rfl, b3⟩
    have T3 := Lib.hid (T2.out.trans (b3.mono T2.out.size))
    clear b3 T2
    have HK := Lib.hid (fun h => sf_keeps (way := wy) (a := ac) h)
    have HBD := Lib.hid (sf_bd (way := wy) (a := ac))
    generalize sfV wy ac = sp at *
    generalize sfOk wy ac = ok at *
    go_upto_if 60 with fail
    go_cut [] from 9 (fun wx => Hid (Below Y3.heap.size Y3 wx))
    case first =>
      as_aux_lemma =>
      cases ok with
      | false =>
        go_wp2
        go_meet
        case rel => exact Lib.hid (Below.refl _ _)
      | true =>
        obtain ⟨h1, h2, h3⟩ := HK.out rfl
        obtain ⟨hb0, hb1⟩ := HBD.out
        have H3 := Lib.hid h3
        have HA := Lib.hid (fun W => implStopWay_c sp ac W)
        have HB := Lib.hid (fun W => implStopWay_c (sp + 1) ac W)
        rw [h1] at HA
        clear h1 h3 HK HBD
        generalize swV sp ac = n1 at *
        generalize swV (sp + 1) ac = n2 at *
        generalize swOk (sp + 1) ac = two at *
        have hY := Lib.hid (Below.refl Y3.heap.size Y3)
        have q1 : IntKind.i64.wrap (sp + 1) = sp + 1 := IntWalk.i64_in _ (by omega)
        have t1 : decide (wy < n1) = false := by rw [decide_eq_false_iff_not]; omega
        go_wp2_with fail
        refine (HA.out _).mono ?_
        rintro e Y4 ⟨rfl, b4⟩
        have T4 := Lib.hid (hY.out.trans (b4.mono hY.out.size))
        clear b4 HA
        go_wp2_with fail
        refine (HB.out _).mono ?_
        rintro e Y5 ⟨rfl, b5⟩
        have T5 := Lib.hid (T4.out.trans (b5.mono T4.out.size))
        clear b5 HB
        cases two with
        | false =>
          go_wp2
          go_meet
          case rel => exact T5
        | true =>
          have h5 := H3.out rfl
          have t2 : decide (n2 ≤ wy) = false := by rw [decide_eq_false_iff_not]; omega
          go_wp2
          go_meet
          case rel => exact T5
    case rest =>
      clear HK HBD
      have TB := Lib.hid (T3.out.trans (hcut.out.mono T3.out.size))
      clear hcut T3
      have HCode6 := Lib.hid (HC.out.below TB.out)
      go_wp2_with fail
      refine (DrawStopWay_any a len cap _ HCode6.out).mono ?_
      rintro e X6 ⟨vs, va, rfl, hvs, hva, b6⟩
      have T6 := Lib.hid (TB.out.trans (b6.mono TB.out.size))
      clear b6 HCode6 TB
      go_wp2_with fail
      refine (implStopWay_c vs va _).mono ?_
      rintro e Y7 ⟨rfl, b7⟩
      have T7 := Lib.hid (T6.out.trans (b7.mono T6.out.size))
      clear b7 T6
      go_wp2_with fail
      refine (specStopWay_c vs va _).mono ?_
      rintro e Y8 ⟨rfl, b8⟩
      have T8 := Lib.hid (T7.out.trans (b8.mono T7.out.size))
      clear b8 T7
      generalize swV vs va = nn at *
      generalize swOk vs va = told at *
      have HCode9 := Lib.hid (HC.out.below T8.out)
      go_wp2_with fail
      refine (DrawShortestTo_any a len cap _ HCode9.out).mono ?_
      rintro e X9 ⟨fr, to9, bc, rfl, hfr, hto, hbc, b9⟩
      have T9 := Lib.hid (T8.out.trans (b9.mono T8.out.size))
      clear b9 HCode9 T8
      go_wp2_with fail
      refine (implShortestTo_c fr to9 bc _).mono ?_
      rintro e Y10 ⟨g10, rfl, o10, b10⟩
      have T10 := Lib.hid (T9.out.trans (b10.mono T9.out.size))
      have O10 := Lib.hid o10
      clear o10
      clear b10 T9
      go_wp2_with fail
      refine (specShortestTo_c fr to9 bc _).mono ?_
      rintro e Y11 ⟨g11, rfl, o11, b11⟩
      have T11 := Lib.hid (T10.out.trans (b11.mono T10.out.size))
      have O11 := Lib.hid o11
      have O12 := Lib.hid (owns_below O10.out b11)
      clear o11 O10
      clear b11 T10
      have HK := Lib.hid (fun h => st_keeps (f := fr) (t := to9) (a := bc) h)
      have HLN := Lib.hid (stR_len fr to9 bc)
      obtain ⟨pa, pc, rfl⟩ := (Rs.of_own O12.out).shape
      have A12 := Lib.hid (Rd.of_own O12.out)
      have B12 := Lib.hid (Rd.of_own O11.out)
      clear O11 O12
      generalize stR fr to9 bc = out at *
      generalize stOk fr to9 bc = fine at *
      go_wp2_with fail
      refine (vInts9_c _ _ out _ A12.out B12.out).mono ?_
      rintro e Y13 ⟨rfl, b13⟩
      have T13 := Lib.hid (T11.out.trans (b13.mono T11.out.size))
      have A13 := Lib.hid (A12.out.below b13 rfl)
      clear b13 T11
      clear A12 B12
      go_upto_if 141 with fail
      go_cut [] from 26 (fun wx => Hid (Below Y13.heap.size Y13 wx))
      case first =>
        as_aux_lemma =>
        cases fine with
        | false =>
          go_wp2
          go_meet
          case rel => exact Lib.hid (Below.refl _ _)
        | true =>
          obtain ⟨h1, h2, h3, h4, h5⟩ := HK.out rfl
          have hln := HLN.out
          have HA := Lib.hid (fun W h => implDoesKeep_c (.slice pa out.length pc) out bc W h (by omega))
          rw [h1, h2] at HA
          obtain ⟨ao, pb, po, pcc, hve, hpo, hpa⟩ := A13.out.formR
          simp only [Value.slice.injEq] at hve
          obtain ⟨rfl, _, rfl⟩ := hve
          obtain ⟨rfl, hpl, _⟩ := hpo h5
          have HPA := Lib.hid hpa
          clear hpo hpa h1 h2 HK HLN
          have hY := Lib.hid (Below.refl Y13.heap.size Y13)
          go_wp2_with fail
          refine (HA.out _ A13.out).mono ?_
          rintro e Y14 ⟨rfl, b14⟩
          have T14 := Lib.hid (hY.out.trans (b14.mono hY.out.size))
          have HP14 := Lib.hid (HPA.out.below b14 hpl)
          clear b14 HA hY HPA
          have c0 := HP14.out 0 h5
          rw [Nat.add_zero, h3] at c0
          have c1 := HP14.out (out.length - 1) (by omega)
          rw [h4] at c1
          obtain ⟨p1, p2, p3⟩ := pred_in out.length h5 (by omega)
          have t0 : (0 : Int) < (out.length : Int) := by omega
          have t1 : (out.length : Int) - 1 < (out.length : Int) := by omega
          have t2 : (1 : Int) ≤ (out.length : Int) := by omega
          clear h3 h4
          go_wp2
          go_meet
          case rel => exact T14
      case rest =>
        clear HK HLN A13
        have TC := Lib.hid (T13.out.trans (hcut.out.mono T13.out.size))
        clear hcut T13
        have HCode15 := Lib.hid (HC.out.below TC.out)
        go_wp2_with fail
        refine (DrawDoubleWay_any a len cap _ HCode15.out).mono ?_
        rintro e X15 ⟨xv, xl, rfl, ⟨ox, hxl⟩, b15⟩
        have T15 := Lib.hid (TC.out.trans (b15.mono TC.out.size))
        clear b15 HCode15 TC
        have R15 := Lib.hid (Rd.of_own ox)
        clear ox
        go_wp2_with fail
        refine (implDoubleWay_c xv xl _ R15.out (by omega)).mono ?_
        rintro e Y16 ⟨rfl, b16⟩
        have T16 := Lib.hid (T15.out.trans (b16.mono T15.out.size))
        have R16 := Lib.hid (R15.out.below b16 rfl)
        clear b16 T15
        go_wp2_with fail
        refine (specDoubleWay_c xv xl _ R16.out (by omega)).mono ?_
        rintro e Y17 ⟨rfl, b17⟩
        have T17 := Lib.hid (T16.out.trans (b17.mono T16.out.size))
        clear b17 T16
        generalize dwV xl = sm at *
        generalize p9V xl = kn at *
        go_wp2
        go_ret
        exact ⟨rfl, T17.out⟩
end Go.Proofs.Ytklfipmjdhkkiaa
