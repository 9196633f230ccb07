/- The law FnPrices's walk. Condition: sizes; the table of rules is as laid. -/
import Derived.Test.YtpknodbkjjcdjaaDoorTkLaw
import Derived.Test.YtpknodbkjjcdjaaDoorTikBack
import Derived.Test.YtpknodbkjjcdjaaDoorDrawCh
import Derived.Test.YtpknodbkjjcdjaaDoorChpS
import Derived.Test.YtpknodbkjjcdjaaDoorTksSa
import Derived.Test.YtpknodbkjjcdjaaDoorTksUp
import Derived.BigQuiet
import Derived.WalkArith
import Derived.Deep.CutRange
import Derived.Deep.CutBlock
import Derived.Deep.DeepCutAuto
namespace Go.Proofs.YtpknodbkjjcdjaaDoor
open Go.RowKit
set_option linter.unusedVariables false
theorem namedT {a w' : World} {B : Nat} (h : Hid (Below B a w')) : ∃ W : World, W = w' := ⟨_, rfl⟩
set_option maxRecDepth 100000 in
set_option maxHeartbeats 4000000 in
theorem FnPrices_walk (a : Option Addr) (len cap : Nat) (w : World) (h : ByteRow w a len) (ht : RulP w) :
    Calls Tryd.prog 4 #[.slice a len cap] w fun e w' => e = .returned (.bool true) ∧ Below w.heap.size w w' := by
  have hm := h.1
  have HC := Lib.hid h
  have HTT := Lib.hid ht
  clear h ht
  by_cases hbig : 65536 < len
  · go_enter Tryd.func4, Tryd.ntmps4
    go_wp2_with fail
    refine (rBig_yes a len cap _ hbig hm).mono ?_
    rintro e w' ⟨rfl, rfl⟩
    go_wp2_with fail
    go_ret
    exact ⟨rfl, Below.refl _ _⟩
  · go_enter Tryd.func4, Tryd.ntmps4
    go_wp2_with fail
    refine (rBig_no a len cap _ (by omega)).mono ?_
    rintro e w' ⟨rfl, rfl⟩
    have T0 := Lib.hid (Below.refl w.heap.size w)
    have HCode1 := Lib.hid (HC.out.below T0.out)
    go_wp2_with fail
    refine (DrawCheapestFor_any a len cap _ HCode1.out).mono ?_
    rintro e X1 ⟨x1, m1, n1, rfl, b1⟩
    clear HCode1
    unfold Prc.agg
    have T_2 := Lib.hid (T0.out.trans (b1.mono T0.out.size))
    clear b1 T0
    have Kx1_0 := Lib.hid (heap_alloc_new X1 (.cells #[.int .i64 x1.a, .int .i64 x1.b, .int .i64 x1.c, .int .i64 x1.d] 52))
    have T_3 := Lib.hid (T_2.out.alloc T_2.out.size (.cells #[.int .i64 x1.a, .int .i64 x1.b, .int .i64 x1.c, .int .i64 x1.d] 52))
    clear T_2
    go_wp2_with fail
    generalize hwz4 : X1.alloc (.cells #[.int .i64 x1.a, .int .i64 x1.b, .int .i64 x1.c, .int .i64 x1.d] 52) = Z4 at *
    clear hwz4
    refine (implCheapestFor_c x1 m1 n1 _ (HTT.out.below T_3.out)).mono ?_
    rintro e Y5 ⟨vg, Tg, rfl, og, b5⟩
    have Kx1_6 := Lib.hid ((b5.block _ (Array.getElem?_eq_some_iff.1 Kx1_0.out).1).trans Kx1_0.out)
    have T_6 := Lib.hid (T_3.out.trans (b5.mono T_3.out.size))
    clear b5 Kx1_0 T_3
    obtain ⟨ag, cg, rfl⟩ := (Rs.of_own og).shape
    have Rg_0 := Lib.hid (Rd.of_own og)
    clear og
    have kx10 := cell_of_row _ (X1.heap.size) 0 _ _ _ Kx1_6.out
    have kx11 := cell_of_row _ (X1.heap.size) 1 _ _ _ Kx1_6.out
    have kx12 := cell_of_row _ (X1.heap.size) 2 _ _ _ Kx1_6.out
    have kx13 := cell_of_row _ (X1.heap.size) 3 _ _ _ Kx1_6.out
    go_wp2_with fail
    clear kx10 kx11 kx12 kx13
    refine (specCheapestFor_c x1 m1 n1 _).mono ?_
    rintro e Y7 ⟨vh, rfl, oh, b7⟩
    have Rg_8 := Lib.hid (Rg_0.out.below b7 rfl)
    have Kx1_8 := Lib.hid ((b7.block _ (Array.getElem?_eq_some_iff.1 Kx1_6.out).1).trans Kx1_6.out)
    have T_8 := Lib.hid (T_6.out.trans (b7.mono T_6.out.size))
    clear b7 Rg_0 Kx1_6 T_6
    obtain ⟨ah, ch, rfl⟩ := (Rs.of_own oh).shape
    have Rh_0 := Lib.hid (Rd.of_own oh)
    clear oh
    have HCK := Lib.hid (fun h => ch_keeps (p := x1) (m := m1) (n := n1) h)
    generalize chOk x1 m1 n1 = ok at *
    generalize chR x1 m1 n1 = lc at *
    generalize chV x1 m1 n1 = cv at *
    go_wp2_with fail
    refine (rInts_c (.slice ag lc.length cg) (.slice ah lc.length ch) lc _ Rg_8.out Rh_0.out).mono ?_
    rintro e Y9 ⟨rfl, b9⟩
    have Rg_10 := Lib.hid (Rg_8.out.below b9 rfl)
    have Rh_10 := Lib.hid (Rh_0.out.below b9 rfl)
    have Kx1_10 := Lib.hid ((b9.block _ (Array.getElem?_eq_some_iff.1 Kx1_8.out).1).trans Kx1_8.out)
    have T_10 := Lib.hid (T_8.out.trans (b9.mono T_8.out.size))
    clear b9 Rg_8 Rh_0 Kx1_8 T_8
    clear Rh_10
    have HKX := Kx1_10
    have HRG := Rg_10
    go_upto_if 66 with fail
    go_cut [] from 67 to 116 (fun wy => Hid (Below Y9.heap.size Y9 wy))
    case first =>
      as_aux_lemma =>
      cases ok with
      | false =>
        go_wp2
        go_meet
        case rel => exact Lib.hid (Below.refl _ _)
      | true =>
        obtain ⟨S, R, D, E, rfl, ⟨hS, hR, hD, hE⟩, hcv, hle, ⟨ha, hb, hc, hd⟩, hm, hn, hcb⟩ := HCK.out rfl
        have m1' := mul_bd hS.1 hS.2 ha.1 ha.2
        have m2' := mul_bd hR.1 hR.2 hb.1 hb.2
        have m3' := mul_bd hD.1 hD.2 hc.1 hc.2
        have m4' := mul_bd hE.1 hE.2 hd.1 hd.2
        have e1 : IntKind.i64.wrap (S * x1.a) = S * x1.a := IntWalk.i64_in _ (by omega)
        have e2 : IntKind.i64.wrap (R * x1.b) = R * x1.b := IntWalk.i64_in _ (by omega)
        have e3 : IntKind.i64.wrap (D * x1.c) = D * x1.c := IntWalk.i64_in _ (by omega)
        have e4 : IntKind.i64.wrap (E * x1.d) = E * x1.d := IntWalk.i64_in _ (by omega)
        have e5 : IntKind.i64.wrap (S * x1.a + R * x1.b) = S * x1.a + R * x1.b := IntWalk.i64_in _ (by omega)
        have e6 : IntKind.i64.wrap (S * x1.a + R * x1.b + D * x1.c) = S * x1.a + R * x1.b + D * x1.c := IntWalk.i64_in _ (by omega)
        have e7 : IntKind.i64.wrap (S * x1.a + R * x1.b + D * x1.c + E * x1.d) = cv := by rw [← hcv]; exact IntWalk.i64_in _ (by omega)
        have e8 : IntKind.i64.wrap (m1 + n1) = m1 + n1 := IntWalk.i64_in _ (by omega)
        have m5 := fun h : m1 + n1 ≤ 20 => mul_bd (x := m1 + n1) (m := 20) (by omega) h ha.1 ha.2
        have HM5 := Lib.hid m5
        have HLE := Lib.hid hle
        have HX := Lib.hid HKX.out
        rcases HRG.out with ⟨h0, _⟩ | ⟨gb, go, gc, hv, hlt, hmx, hcl⟩
        · exact absurd h0 (by simp [intVs])
        · cases hv
          have g0 : Y9.cell? ⟨gb, go, none⟩ = some (.int .i64 S) := hcl 0 (.int .i64 S) rfl
          have g1 := hcl 1 (.int .i64 R) rfl
          have g2 := hcl 2 (.int .i64 D) rfl
          have g3 := hcl 3 (.int .i64 E) rfl
          have k0 := cell_of_row _ (X1.heap.size) 0 _ _ _ HX.out
          have k1 := cell_of_row _ (X1.heap.size) 1 _ _ _ HX.out
          have k2 := cell_of_row _ (X1.heap.size) 2 _ _ _ HX.out
          have k3 := cell_of_row _ (X1.heap.size) 3 _ _ _ HX.out
          clear m1' m2' m3' m4' m5 hle hcl hcv hcb hm hn ha hb hc hd hS hR hD hE HCK HRG HKX hmx hlt
          by_cases hs : m1 + n1 ≤ 20
          · have t1 : decide (m1 + n1 ≤ 20) = true := by simpa using hs
            have e9 : IntKind.i64.wrap ((m1 + n1) * x1.a) = (m1 + n1) * x1.a := IntWalk.i64_in _ (by have := HM5.out hs; omega)
            have t2 : decide ((m1 + n1) * x1.a < cv) = false := by have := HLE.out hs; simp; omega
            clear hs
            go_wp2_with fail
            go_quiet (fail)
            go_wp2
            go_meet
            case rel => exact Lib.hid (below_drewN (Below.refl _ _) _)
          · have t1 : decide (m1 + n1 ≤ 20) = false := by simpa using hs
            clear hs
            go_wp2_with fail
            go_quiet (fail)
            go_wp2
            go_meet
            case rel => exact Lib.hid (below_drewN (Below.refl _ _) _)
    case rest =>
      obtain ⟨wy, hwy⟩ := namedT hcut
      subst hwy
      have b72 := hcut.out
      clear hcut HCK HKX HRG
      clear Rg_10
      clear Kx1_10
      have T_11 := Lib.hid (T_10.out.trans (b72.mono T_10.out.size))
      clear b72 T_10
      have HCode12 := Lib.hid (HC.out.below T_11.out)
      go_wp2_with fail
      refine (DrawSalesOn_any a len cap _ HCode12.out).mono ?_
      rintro e X12 ⟨x2, v2, l2, d2, rfl, r2, hl2, b12⟩
      clear HCode12
      unfold Prc.agg
      have T_13 := Lib.hid (T_11.out.trans (b12.mono T_11.out.size))
      clear b12 T_11
      obtain ⟨a2, c2, rfl⟩ := r2.shape
      have R2_0 := Lib.hid r2
      clear r2
      have hn2 : l2.length ≤ 1048576 := by omega
      have Kx2_0 := Lib.hid (heap_alloc_new X12 (.cells #[.int .i64 x2.a, .int .i64 x2.b, .int .i64 x2.c, .int .i64 x2.d] 52))
      have R2_14 := Lib.hid (R2_0.out.below ((Below.refl X12.heap.size X12).alloc (Nat.le_refl _) (.cells #[.int .i64 x2.a, .int .i64 x2.b, .int .i64 x2.c, .int .i64 x2.d] 52)) rfl)
      have T_14 := Lib.hid (T_13.out.alloc T_13.out.size (.cells #[.int .i64 x2.a, .int .i64 x2.b, .int .i64 x2.c, .int .i64 x2.d] 52))
      clear R2_0 T_13
      go_wp2_with fail
      generalize hwz15 : X12.alloc (.cells #[.int .i64 x2.a, .int .i64 x2.b, .int .i64 x2.c, .int .i64 x2.d] 52) = Z15 at *
      clear hwz15
      refine (implSalesOn_c x2 (.slice a2 l2.length c2) l2 d2 _ R2_14.out hn2 (HTT.out.below T_14.out)).mono ?_
      rintro e Y16 ⟨rfl, b16⟩
      have R2_17 := Lib.hid (R2_14.out.below b16 rfl)
      have Kx2_17 := Lib.hid ((b16.block _ (Array.getElem?_eq_some_iff.1 Kx2_0.out).1).trans Kx2_0.out)
      have T_17 := Lib.hid (T_14.out.trans (b16.mono T_14.out.size))
      clear b16 R2_14 Kx2_0 T_14
      have kx20 := cell_of_row _ (X12.heap.size) 0 _ _ _ Kx2_17.out
      have kx21 := cell_of_row _ (X12.heap.size) 1 _ _ _ Kx2_17.out
      have kx22 := cell_of_row _ (X12.heap.size) 2 _ _ _ Kx2_17.out
      have kx23 := cell_of_row _ (X12.heap.size) 3 _ _ _ Kx2_17.out
      go_wp2_with fail
      clear kx20 kx21 kx22 kx23
      refine (specSalesOn_c x2 (.slice a2 l2.length c2) l2 d2 _ R2_17.out hn2).mono ?_
      rintro e Y18 ⟨rfl, b18⟩
      have R2_19 := Lib.hid (R2_17.out.below b18 rfl)
      have Kx2_19 := Lib.hid ((b18.block _ (Array.getElem?_eq_some_iff.1 Kx2_17.out).1).trans Kx2_17.out)
      have T_19 := Lib.hid (T_17.out.trans (b18.mono T_17.out.size))
      clear b18 R2_17 Kx2_17 T_17
      clear Kx2_19
      have HSO := Lib.hid (fun h => sa_ones (p := x2) (l := l2) (d := d2) h)
      generalize saOk x2 l2 d2 = so at *
      generalize saV x2 l2 d2 = sv at *
      go_upto_if 145 with fail
      go_cut [] from 19 (fun wz => Hid (Below Y18.heap.size Y18 wz))
      case first =>
        as_aux_lemma =>
        cases so with
        | false =>
          go_wp2
          go_meet
          case rel => exact Lib.hid (Below.refl _ _)
        | true =>
          obtain ⟨s1, s2⟩ := HSO.out rfl
          have EB := Lib.hid (fun W h hh => implSalesOn_c ⟨1, 1, 1, 1⟩ (.slice a2 l2.length c2) l2 d2 W h hn2 hh)
          rw [s1, s2] at EB
          have HOB := Lib.hid (fun k => ones_bd l2 d2 k)
          clear s1 s2 HSO
          go_wp2_with fail
          refine (EB.out _ R2_19.out (HTT.out.below T_19.out)).mono ?_
          rintro e wc ⟨rfl, bc⟩
          have HB0 := Lib.hid bc
          have R2_20 := Lib.hid (R2_19.out.below bc rfl)
          have T_20 := Lib.hid (T_19.out.trans (bc.mono T_19.out.size))
          clear bc R2_19 T_19
          clear EB
          go_wp2
          go_loopw [21, 22] (fun c i wr => ∃ kk : Nat, kk ≤ l2.length ∧ i = .int .i64 (kk : Int) ∧ c = .int .i64 (saN ⟨1, 1, 1, 1⟩ l2 d2 kk) ∧ Hid (Below wc.heap.size wc wr)) (fun _ i _ => l2.length - (intOf i).toNat)
          case atStart => exact ⟨0, by omega, rfl, rfl, Lib.hid (Below.refl _ _)⟩
          case round =>
            obtain ⟨kk, hk, rfl, rfl, hbl⟩ := hrel
            have bq := hbl.out
            have R2_21 := Lib.hid (R2_20.out.below bq rfl)
            have T_21 := Lib.hid (T_20.out.trans (bq.mono T_20.out.size))
            clear bq R2_20 T_20
            by_cases hlt : kk < l2.length
            · skip
              have i1 : (kk : Int) < (l2.length : Int) := by omega
              obtain ⟨aeq, beq, oeq, ceq, hvq, hAq, hatq⟩ := R2_21.out.form_Tik
              obtain ⟨rfl, hbq, hmq⟩ := hAq (by omega)
              cases hvq
              obtain ⟨q0, q1, q2, q3, q4⟩ := hatq kk (by omega)
              clear hAq hatq hmq
              have HY := Lib.hid (fun h => ones_yes (l := l2) (d := d2) (k := kk) h)
              have HNo := Lib.hid (fun h => saN_no (p := ⟨1, 1, 1, 1⟩) (l := l2) (d := d2) (n := kk) h)
              have hob := HOB.out kk
              generalize gth l2 kk = E1 at *
              generalize saN ⟨1, 1, 1, 1⟩ l2 d2 kk = CN at *
              have wq1 : IntKind.i64.wrap (CN + 1) = CN + 1 := IntWalk.i64_in _ (by omega)
              clear hob HOB
              by_cases hst : E1.w = d2
              · have t1 : (E1.w == d2) = true := by simpa using hst
                have HS := Lib.hid (HY.out hst)
                clear hst HY HNo
                go_wp2
                go_roundw
                case rel => exact ⟨kk + 1, by omega, by go_num, by rw [HS.out], hbl⟩
                case measure => simp [intOf]; omega
              · have t1 : (E1.w == d2) = false := by simpa using hst
                have HS := Lib.hid (HNo.out hst)
                clear hst HY HNo
                go_wp2
                go_roundw
                case rel => exact ⟨kk + 1, by omega, by go_num, by rw [HS.out], hbl⟩
                case measure => simp [intOf]; omega
            · skip
              have t1 : decide ((kk : Int) < (l2.length : Int)) = false := by simp; omega
              obtain rfl : kk = l2.length := by omega
              generalize saN ⟨1, 1, 1, 1⟩ l2 d2 l2.length = CN at *
              have HBZ := Lib.hid (HB0.out.trans (hbl.out.mono HB0.out.size))
              go_wp2
              go_meet
              case rel => exact HBZ
      case rest =>
        obtain ⟨wz, hwz⟩ := namedT hcut
        subst hwz
        have b73 := hcut.out
        clear hcut HSO
        clear R2_19
        have T_22 := Lib.hid (T_19.out.trans (b73.mono T_19.out.size))
        clear b73 T_19
        have HCode23 := Lib.hid (HC.out.below T_22.out)
        go_wp2_with fail
        refine (DrawStillUp_any a len cap _ HCode23.out).mono ?_
        rintro e X23 ⟨v3, l3, rfl, r3, hl3, b23⟩
        clear HCode23
        have T_24 := Lib.hid (T_22.out.trans (b23.mono T_22.out.size))
        clear b23 T_22
        obtain ⟨a3, c3, rfl⟩ := r3.shape
        have R3_0 := Lib.hid r3
        clear r3
        have hn3 : l3.length ≤ 1048576 := by omega
        go_wp2_with fail
        refine (implStillUp_c (.slice a3 l3.length c3) l3 _ R3_0.out hn3 (HTT.out.below T_24.out)).mono ?_
        rintro e Y25 ⟨rfl, b25⟩
        have R3_26 := Lib.hid (R3_0.out.below b25 rfl)
        have T_26 := Lib.hid (T_24.out.trans (b25.mono T_24.out.size))
        clear b25 R3_0 T_24
        go_wp2_with fail
        refine (specStillUp_c (.slice a3 l3.length c3) l3 _ R3_26.out hn3).mono ?_
        rintro e Y27 ⟨rfl, b27⟩
        have R3_28 := Lib.hid (R3_26.out.below b27 rfl)
        have T_28 := Lib.hid (T_26.out.trans (b27.mono T_26.out.size))
        clear b27 R3_26 T_26
        have hsu := su_nonneg l3
        generalize suV l3 = su at *
        generalize tikL l3 = tl at *
        have t1 : decide (0 ≤ su) = true := by simpa using hsu
        clear hsu
        go_wp2
        go_ret
        exact ⟨by simp, T_28.out⟩
end Go.Proofs.YtpknodbkjjcdjaaDoor
