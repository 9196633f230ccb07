/- The law FnGrips's walk. Condition: sizes. -/
import Derived.Test.YtiogjocbiagipaaDrawG2
import Derived.Test.YtiogjocbiagipaaGrpLaw
import Derived.Test.YtiogjocbiagipaaGrpBack
import Derived.WalkArith
import Derived.Deep.CutRange
import Derived.Deep.CutBlock
import Derived.Deep.DeepCutAuto
namespace Go.Proofs.Ytiogjocbiagipaa
open Go.RowKit
set_option linter.unusedVariables false
set_option maxRecDepth 100000 in
set_option maxHeartbeats 16000000 in
theorem FnGrips_walk (a : Option Addr) (len cap : Nat) (w : World) (h : ByteRow w a len) :
    Calls Try.prog 3 #[.slice a len cap] w fun e w' => e = .returned (.bool true) ∧ Below w.heap.size w w' := by
  have hm := h.1
  have HC := Lib.hid h
  clear h
  by_cases hbig : 65536 < len
  · go_enter Try.func3, Try.ntmps3
    go_wp2_with fail
    refine (rBig_yes a len cap _ hbig hm).mono ?_
    rintro e w' ⟨rfl, rfl⟩
    go_wp2_with fail
    go_ret
    exact ⟨rfl, Below.refl _ _⟩
  · go_enter Try.func3, Try.ntmps3
    go_wp2_with fail
    refine (rBig_no a len cap _ (by omega)).mono ?_
    rintro e w' ⟨rfl, rfl⟩
    have T0 := Lib.hid (Below.refl w.heap.size w)
    have HCode1 := Lib.hid (HC.out.below T0.out)
    go_wp2_with fail
    refine (DrawSteepestHeld_any a len cap _ HCode1.out).mono ?_
    rintro e X1 ⟨x1, y1, rfl, hxb1, hy1, hb⟩
    unfold Grp.agg
    have HBX1 := Lib.hid (fun W hh => box_Grp X1 x1 25 _ rfl W hh)
    have BX1 := Lib.hid (Below.refl (X1.heap.size + 1) (X1.alloc (.cells #[.int .i64 x1.i, .int .i64 x1.s, .int .i64 x1.w, .int .i64 x1.g, .int .i64 x1.p] 25)))
    have hT := T0.out.trans (hb.mono T0.out.size)
    have T1 := Lib.hid (hT.alloc hT.size (.cells #[.int .i64 x1.i, .int .i64 x1.s, .int .i64 x1.w, .int .i64 x1.g, .int .i64 x1.p] 25))
    have hs1 : (X1.alloc (.cells #[.int .i64 x1.i, .int .i64 x1.s, .int .i64 x1.w, .int .i64 x1.g, .int .i64 x1.p] 25)).heap.size = X1.heap.size + 1 := by simp
    have HWy1 := Lib.hid (WalkArith.wf_i64 (n := y1) (by omega))
    clear hb hT HCode1
    obtain ⟨k0, k1, k2, k3, k4⟩ := HBX1.out _ BX1.out
    go_wp2_with fail
    refine (implSteepestHeld_c x1 y1 _ HWy1.out).mono ?_
    rintro e Y2 ⟨rfl, b2⟩
    have T_2 := Lib.hid (T1.out.trans (b2.mono T1.out.size))
    have BX_2 := Lib.hid (BX1.out.trans (b2.mono (by first | exact BX1.out.size | (have := BX1.out.size; omega))))
    clear b2 k0 k1 k2 k3 k4 T1 BX1
    obtain ⟨k0, k1, k2, k3, k4⟩ := HBX1.out _ BX_2.out
    go_wp2_with fail
    refine (specSteepestHeld_c x1 y1 _ HWy1.out).mono ?_
    rintro e Y3 ⟨rfl, b3⟩
    have T_3 := Lib.hid (T_2.out.trans (b3.mono T_2.out.size))
    have BX_3 := Lib.hid (BX_2.out.trans (b3.mono (by first | exact BX_2.out.size | (have := BX_2.out.size; omega))))
    clear b3 k0 k1 k2 k3 k4 T_2 BX_2
    have HLA := Lib.hid (fun h => sh_law (k := x1) (a := y1) h)
    generalize shOk x1 y1 = ok at *
    generalize shV x1 y1 = sv at *
    go_upto_if 67 with fail
    go_cut [] from 9 (fun wx => Hid (Below Y3.heap.size Y3 wx))
    case first =>
      as_aux_lemma =>
      cases ok with
      | false =>
        go_wp2
        go_meet
        case rel => exact Lib.hid (Below.refl _ _)
      | true =>
        obtain ⟨⟨s0, s1⟩, hdo, hdv, hdn⟩ := HLA.out rfl
        have HA := Lib.hid (fun W => implDoesHold_w x1 y1 sv W)
        rw [hdo, hdv] at HA
        have HB := Lib.hid (fun W => implDoesHold_w x1 y1 (sv + 1) W)
        rw [hdn] at HB
        have e1 : IntKind.i64.wrap (sv + 1) = sv + 1 := IntWalk.i64_in _ (by omega)
        clear hdo hdv hdn
        generalize dhOk x1 y1 (sv + 1) = two at *
        have hY0 := Lib.hid (Below.refl Y3.heap.size Y3)
        obtain ⟨k0, k1, k2, k3, k4⟩ := HBX1.out _ BX_3.out
        go_wp2_with fail
        refine (HA.out _).mono ?_
        rintro e Y4 ⟨rfl, b4⟩
        have T_4 := Lib.hid (hY0.out.trans (b4.mono hY0.out.size))
        have BX_4 := Lib.hid (BX_3.out.trans (b4.mono (by first | exact BX_3.out.size | (have := BX_3.out.size; omega))))
        clear b4 k0 k1 k2 k3 k4 hY0 BX_3
        obtain ⟨k0, k1, k2, k3, k4⟩ := HBX1.out _ BX_4.out
        go_wp2_with fail
        refine (HB.out _).mono ?_
        rintro e Y5 ⟨rfl, b5⟩
        have T_5 := Lib.hid (T_4.out.trans (b5.mono T_4.out.size))
        have BX_5 := Lib.hid (BX_4.out.trans (b5.mono (by first | exact BX_4.out.size | (have := BX_4.out.size; omega))))
        clear b5 k0 k1 k2 k3 k4 T_4 BX_4
        cases two with
        | false =>
          go_wp2
          go_meet
          case rel => exact T_5
        | true =>
          go_wp2
          go_meet
          case rel => exact T_5
    case rest =>
      clear HLA
      have TA := Lib.hid (T_3.out.trans (hcut.out.mono T_3.out.size))
      clear hcut T_3 BX_3
      have HCode6 := Lib.hid (HC.out.below TA.out)
      go_wp2_with fail
      refine (DrawDoesHold_any a len cap _ HCode6.out).mono ?_
      rintro e X6 ⟨x6, y6, z6, rfl, hxb6, hy6, hz6, hb⟩
      unfold Grp.agg
      have HBX6 := Lib.hid (fun W hh => box_Grp X6 x6 25 _ rfl W hh)
      have BX6 := Lib.hid (Below.refl (X6.heap.size + 1) (X6.alloc (.cells #[.int .i64 x6.i, .int .i64 x6.s, .int .i64 x6.w, .int .i64 x6.g, .int .i64 x6.p] 25)))
      have hT := TA.out.trans (hb.mono TA.out.size)
      have T6 := Lib.hid (hT.alloc hT.size (.cells #[.int .i64 x6.i, .int .i64 x6.s, .int .i64 x6.w, .int .i64 x6.g, .int .i64 x6.p] 25))
      have hs6 : (X6.alloc (.cells #[.int .i64 x6.i, .int .i64 x6.s, .int .i64 x6.w, .int .i64 x6.g, .int .i64 x6.p] 25)).heap.size = X6.heap.size + 1 := by simp
      have HWy6 := Lib.hid (WalkArith.wf_i64 (n := y6) (by omega))
      have HWz6 := Lib.hid (WalkArith.wf_i64 (n := z6) (by omega))
      clear hb hT HCode6
      obtain ⟨k0, k1, k2, k3, k4⟩ := HBX6.out _ BX6.out
      go_wp2_with fail
      refine (implDoesHold_c x6 y6 z6 _ HWy6.out HWz6.out).mono ?_
      rintro e Y7 ⟨rfl, b7⟩
      have T_7 := Lib.hid (T6.out.trans (b7.mono T6.out.size))
      have BX_7 := Lib.hid (BX6.out.trans (b7.mono (by first | exact BX6.out.size | (have := BX6.out.size; omega))))
      clear b7 k0 k1 k2 k3 k4 T6 BX6
      obtain ⟨k0, k1, k2, k3, k4⟩ := HBX6.out _ BX_7.out
      go_wp2_with fail
      refine (specDoesHold_c x6 y6 z6 _ HWy6.out HWz6.out).mono ?_
      rintro e Y8 ⟨rfl, b8⟩
      have T_8 := Lib.hid (T_7.out.trans (b8.mono T_7.out.size))
      have BX_8 := Lib.hid (BX_7.out.trans (b8.mono (by first | exact BX_7.out.size | (have := BX_7.out.size; omega))))
      clear b8 k0 k1 k2 k3 k4 T_7 BX_7
      go_wp2_with fail
      refine (implPullOf_c y6 z6 _ HWy6.out HWz6.out).mono ?_
      rintro e Y9 ⟨rfl, b9⟩
      have T_9 := Lib.hid (T_8.out.trans (b9.mono T_8.out.size))
      have BX_9 := Lib.hid (BX_8.out.trans (b9.mono (by first | exact BX_8.out.size | (have := BX_8.out.size; omega))))
      clear b9 T_8 BX_8
      go_wp2_with fail
      refine (specPullOf_c y6 z6 _ HWy6.out HWz6.out).mono ?_
      rintro e Y10 ⟨rfl, b10⟩
      have T_10 := Lib.hid (T_9.out.trans (b10.mono T_9.out.size))
      have BX_10 := Lib.hid (BX_9.out.trans (b10.mono (by first | exact BX_9.out.size | (have := BX_9.out.size; omega))))
      clear b10 T_9 BX_9
      have HPU := Lib.hid (fun h => dh_pull (k := x6) (a := y6) (s := z6) h)
      have hpb := plV_bd y6 z6
      generalize dhV x6 y6 z6 = hv at *
      generalize dhOk x6 y6 z6 = ho at *
      generalize plV y6 z6 = pu at *
      generalize plOk y6 z6 = po at *
      go_upto_region 22 with fail
      go_cut [150] from 133 to 150 (fun tt wx => tt = .bool false ∧ wx = Y10)
      case first =>
        as_aux_lemma =>
        obtain ⟨k0, k1, k2, k3, k4⟩ := HBX6.out _ BX_10.out
        have e1 : IntKind.i64.wrap (3 * pu) = 3 * pu := IntWalk.i64_in _ (by omega)
        cases hv with
        | false =>
          go_wp2
          go_meet
          case rel => exact ⟨rfl, rfl⟩
        | true =>
          have hp3 := HPU.out rfl
          have t1 : decide (x6.s < 3 * pu) = false := by simp; omega
          go_wp2
          go_meet
          case rel => exact ⟨rfl, rfl⟩
      case rest =>
        obtain ⟨htt, rfl⟩ := hcut
        subst htt
        clear HPU BX_10
        have HCode11 := Lib.hid (HC.out.below T_10.out)
        go_wp2_with fail
        refine (DrawTestGrip_any a len cap _ HCode11.out).mono ?_
        rintro e X11 ⟨v11, l11, n11, f11, d11, rfl, hr, hl11, hn11, hf11, hd11, hb⟩
        have T11 := Lib.hid (T_10.out.trans (hb.mono T_10.out.size))
        have HR11 := Lib.hid hr
        have HWn11 := Lib.hid (WalkArith.wf_i64 (n := n11) (by omega))
        have HWf11 := Lib.hid (WalkArith.wf_i64 (n := f11) (by omega))
        have HWd11 := Lib.hid (WalkArith.wf_i64 (n := d11) (by omega))
        clear hb hr HCode11
        go_wp2_with fail
        refine (implTestGrip_c v11 l11 n11 f11 d11 _ HR11.out (by omega) HWn11.out HWf11.out HWd11.out).mono ?_
        rintro e Y12 ⟨g, rfl, o12, b12⟩
        have T_12 := Lib.hid (T11.out.trans (b12.mono T11.out.size))
        have R11_12 := Lib.hid (HR11.out.below b12 rfl)
        have Og_12 := Lib.hid o12
        clear b12 o12 T11 HR11
        go_wp2_with fail
        refine (specTestGrip_c v11 l11 n11 f11 d11 _ R11_12.out (by omega) HWn11.out HWf11.out HWd11.out).mono ?_
        rintro e Y13 ⟨h, rfl, o13, b13⟩
        have T_13 := Lib.hid (T_12.out.trans (b13.mono T_12.out.size))
        have R11_13 := Lib.hid (R11_12.out.below b13 rfl)
        have Og_13 := Lib.hid (owns_below Og_12.out b13)
        have Oh_13 := Lib.hid o13
        clear b13 o13 T_12 R11_12 Og_12
        have HTL := Lib.hid (fun h => tg_law (l := l11) (n := n11) (f := f11) (d := d11) h)
        have hRl := tgR_len l11 n11 f11 d11
        generalize tgOk l11 n11 f11 d11 = kn at *
        generalize tgR l11 n11 f11 d11 = RR at *
        go_wp2_with fail
        refine (rGrips_same g h RR _ (Rs.of_own Og_13.out) (Rs.of_own Oh_13.out)).mono ?_
        rintro e Y14 ⟨rfl, b14⟩
        have T_14 := Lib.hid (T_13.out.trans (b14.mono T_13.out.size))
        have R11_14 := Lib.hid (R11_13.out.below b14 rfl)
        have Og_14 := Lib.hid (owns_below Og_13.out b14)
        have Oh_14 := Lib.hid (owns_below Oh_13.out b14)
        clear b14 T_13 R11_13 Og_13 Oh_13
        go_upto_if 183 with fail
        go_cut [] from 32 (fun wx => Hid (Below Y14.heap.size Y14 wx))
        case first =>
          as_aux_lemma =>
          cases kn with
          | false =>
            go_wp2
            go_meet
            case rel => exact Lib.hid (Below.refl _ _)
          | true =>
            obtain ⟨hgl, hnm⟩ := HTL.out rfl
            have HAG := Lib.hid (fun W h => implAreGrips_c g RR W h (by omega))
            rw [hgl] at HAG
            have HNM := Lib.hid hnm
            have hdl := duR_len RR d11
            clear hgl hnm
            have hY0 := Lib.hid (Below.refl Y14.heap.size Y14)
            go_wp2_with fail
            refine (implDueTests_c g RR d11 _ (Rs.of_own Og_14.out) (by omega) HWd11.out).mono ?_
            rintro e Y15 ⟨du, rfl, o15, b15⟩
            have T_15 := Lib.hid (hY0.out.trans (b15.mono hY0.out.size))
            have Og_15 := Lib.hid (owns_below Og_14.out b15)
            have Ou_15 := Lib.hid o15
            clear b15 o15 hY0 Og_14
            generalize duOk RR d11 = one at *
            generalize duR RR d11 = DD at *
            cases one with
            | false =>
              go_wp2_with fail
              refine (HAG.out _ (Rs.of_own Og_15.out)).mono ?_
              rintro e Y16 ⟨rfl, b16⟩
              have T_16 := Lib.hid (T_15.out.trans (b16.mono T_15.out.size))
              have Og_16 := Lib.hid (owns_below Og_15.out b16)
              have Ou_16 := Lib.hid (owns_below Ou_15.out b16)
              clear b16 T_15 Og_15 Ou_15
              go_wp2
              go_meet
              case rel => exact T_16
            | true =>
              go_wp2_with fail
              refine (rHas_b du DD n11 false _ (Rd.of_own Ou_15.out) (by omega) (by simpa using HNM.out)).mono ?_
              rintro e Y17 ⟨rfl, b17⟩
              have T_17 := Lib.hid (T_15.out.trans (b17.mono T_15.out.size))
              have Og_17 := Lib.hid (owns_below Og_15.out b17)
              have Ou_17 := Lib.hid (owns_below Ou_15.out b17)
              clear b17 T_15 Og_15 Ou_15
              go_wp2_with fail
              refine (HAG.out _ (Rs.of_own Og_17.out)).mono ?_
              rintro e Y18 ⟨rfl, b18⟩
              have T_18 := Lib.hid (T_17.out.trans (b18.mono T_17.out.size))
              have Og_18 := Lib.hid (owns_below Og_17.out b18)
              have Ou_18 := Lib.hid (owns_below Ou_17.out b18)
              clear b18 T_17 Og_17 Ou_17
              go_wp2
              go_meet
              case rel => exact T_18
        case rest =>
          clear HTL
          have TB := Lib.hid (T_14.out.trans (hcut.out.mono T_14.out.size))
          clear hcut T_14 R11_14 Og_14 Oh_14
          have HCode19 := Lib.hid (HC.out.below TB.out)
          go_wp2_with fail
          refine (DrawDueTests_any a len cap _ HCode19.out).mono ?_
          rintro e X19 ⟨v19, l19, d19, rfl, hr, hl19, hd19, hb⟩
          have T19 := Lib.hid (TB.out.trans (hb.mono TB.out.size))
          have HR19 := Lib.hid hr
          have HWd19 := Lib.hid (WalkArith.wf_i64 (n := d19) (by omega))
          clear hb hr HCode19
          go_wp2_with fail
          refine (implDueTests_c v19 l19 d19 _ HR19.out (by omega) HWd19.out).mono ?_
          rintro e Y20 ⟨p, rfl, o20, b20⟩
          have T_20 := Lib.hid (T19.out.trans (b20.mono T19.out.size))
          have R19_20 := Lib.hid (HR19.out.below b20 rfl)
          have Op_20 := Lib.hid o20
          clear b20 o20 T19 HR19
          go_wp2_with fail
          refine (specDueTests_c v19 l19 d19 _ R19_20.out (by omega) HWd19.out).mono ?_
          rintro e Y21 ⟨q, rfl, o21, b21⟩
          have T_21 := Lib.hid (T_20.out.trans (b21.mono T_20.out.size))
          have R19_21 := Lib.hid (R19_20.out.below b21 rfl)
          have Op_21 := Lib.hid (owns_below Op_20.out b21)
          have Oq_21 := Lib.hid o21
          clear b21 o21 T_20 R19_20 Op_20
          generalize duOk l19 d19 = gd at *
          generalize duR l19 d19 = DD at *
          go_wp2_with fail
          refine (rInts_c p q DD _ (Rd.of_own Op_21.out) (Rd.of_own Oq_21.out)).mono ?_
          rintro e Y22 ⟨rfl, b22⟩
          have T_22 := Lib.hid (T_21.out.trans (b22.mono T_21.out.size))
          have R19_22 := Lib.hid (R19_21.out.below b22 rfl)
          have Op_22 := Lib.hid (owns_below Op_21.out b22)
          have Oq_22 := Lib.hid (owns_below Oq_21.out b22)
          clear b22 T_21 R19_21 Op_21 Oq_21
          go_wp2
          go_ret
          exact ⟨rfl, T_22.out⟩
end Go.Proofs.Ytiogjocbiagipaa
