/- The law FnTickets's walk. Condition: sizes; the table of rules is as laid. -/
import Derived.Test.YtpknodbkjjcdjaaDoorTkLaw
import Derived.Test.YtpknodbkjjcdjaaDoorTikBack
import Derived.Test.YtpknodbkjjcdjaaDoorDrawPk
import Derived.Test.YtpknodbkjjcdjaaDoorTksUseS
import Derived.Test.YtpknodbkjjcdjaaDoorTksSl
import Derived.Test.YtpknodbkjjcdjaaDoorTksEx
import Derived.WalkArith
import Derived.Deep.CutRange
import Derived.Deep.CutBlock
import Derived.Deep.DeepCutAuto
namespace Go.Proofs.YtpknodbkjjcdjaaDoor
open Go.RowKit
set_option linter.unusedVariables false
theorem namedT {a w' : World} {B : Nat} (h : Hid (Below B a w')) : ∃ W : World, W = w' := ⟨_, rfl⟩
set_option maxRecDepth 100000 in
set_option maxHeartbeats 4000000 in
theorem FnTickets_walk (a : Option Addr) (len cap : Nat) (w : World) (h : ByteRow w a len) (ht : RulP w) :
    Calls Tryd.prog 3 #[.slice a len cap] w fun e w' => e = .returned (.bool true) ∧ Below w.heap.size w w' := by
  have hm := h.1
  have HC := Lib.hid h
  have HTT := Lib.hid ht
  clear h ht
  by_cases hbig : 65536 < len
  · go_enter Tryd.func3, Tryd.ntmps3
    go_wp2_with fail
    refine (rBig_yes a len cap _ hbig hm).mono ?_
    rintro e w' ⟨rfl, rfl⟩
    go_wp2_with fail
    go_ret
    exact ⟨rfl, Below.refl _ _⟩
  · go_enter Tryd.func3, Tryd.ntmps3
    go_wp2_with fail
    refine (rBig_no a len cap _ (by omega)).mono ?_
    rintro e w' ⟨rfl, rfl⟩
    have T0 := Lib.hid (Below.refl w.heap.size w)
    have HCode1 := Lib.hid (HC.out.below T0.out)
    go_wp2_with fail
    refine (DrawUseTicket_any a len cap _ HCode1.out).mono ?_
    rintro e X1 ⟨v1, l1, n1, d1, u1, rfl, r1, hl1, b1⟩
    clear HCode1
    have T_2 := Lib.hid (T0.out.trans (b1.mono T0.out.size))
    clear b1 T0
    obtain ⟨a1, c1, rfl⟩ := r1.shape
    have R1_0 := Lib.hid r1
    clear r1
    have hn1 : l1.length ≤ 1048576 := by omega
    go_wp2_with fail
    refine (implUseTicket_c (.slice a1 l1.length c1) l1 n1 d1 u1 _ R1_0.out hn1 (HTT.out.below T_2.out)).mono ?_
    rintro e Y3 ⟨vg, rfl, og, b3⟩
    have R1_4 := Lib.hid (R1_0.out.below b3 rfl)
    have T_4 := Lib.hid (T_2.out.trans (b3.mono T_2.out.size))
    clear b3 R1_0 T_2
    obtain ⟨ag, cg, rfl⟩ := (Rs.of_own og).shape
    have Rg_0 := Lib.hid (Rs.of_own og)
    clear og
    go_wp2_with fail
    refine (specUseTicket_c (.slice a1 l1.length c1) l1 n1 d1 u1 _ R1_4.out hn1).mono ?_
    rintro e Y5 ⟨vw, rfl, ow, b5⟩
    have R1_6 := Lib.hid (R1_4.out.below b5 rfl)
    have Rg_6 := Lib.hid (Rg_0.out.below b5 rfl)
    have T_6 := Lib.hid (T_4.out.trans (b5.mono T_4.out.size))
    clear b5 R1_4 Rg_0 T_4
    obtain ⟨ax, cx, rfl⟩ := (Rs.of_own ow).shape
    have Rx_0 := Lib.hid (Rs.of_own ow)
    clear ow
    have HUK := Lib.hid (fun h (i : Nat) hi hn => us_keeps (l := l1) (n := n1) (d := d1) (u := u1) h i hi hn)
    have HUL := Lib.hid (fun h => usR_len2 (l := l1) (n := n1) (d := d1) (u := u1) h)
    have HUN := Lib.hid (fun h => us_no (l := l1) (n := n1) (d := d1) (u := u1) h)
    have hul := usR_len l1 n1 d1 u1
    generalize usOk l1 n1 d1 u1 = ok at *
    generalize usR l1 n1 d1 u1 = lu at *
    have hnu : lu.length ≤ 13 := by omega
    clear hul
    go_wp2_with fail
    refine (rTickets_same (.slice ag lu.length cg) (.slice ax lu.length cx) lu _ Rg_6.out Rx_0.out).mono ?_
    rintro e Y7 ⟨rfl, b7⟩
    have R1_8 := Lib.hid (R1_6.out.below b7 rfl)
    have Rg_8 := Lib.hid (Rg_6.out.below b7 rfl)
    have Rx_8 := Lib.hid (Rx_0.out.below b7 rfl)
    have T_8 := Lib.hid (T_6.out.trans (b7.mono T_6.out.size))
    clear b7 R1_6 Rg_6 Rx_0 T_6
    clear Rx_8
    have HOK : Hid (0 < lu.length → ok = true ∧ lu.length = l1.length) := Lib.hid (fun h => by
      cases hk : ok with
      | true => exact ⟨rfl, HUL.out hk⟩
      | false => have := HUN.out hk; rw [this] at h; simp at h)
    clear HUN HUL
    go_wp2
    go_loopw [11] (fun i wr => ∃ kk : Nat, kk ≤ lu.length ∧ i = .int .i64 (kk : Int) ∧ Hid (Below Y7.heap.size Y7 wr)) (fun i _ => lu.length - (intOf i).toNat)
    case atStart => exact ⟨0, by omega, rfl, Lib.hid (Below.refl _ _)⟩
    case round =>
      obtain ⟨kk, hk, rfl, hbl⟩ := hrel
      have bq := hbl.out
      have R1_9 := Lib.hid (R1_8.out.below bq rfl)
      have Rg_9 := Lib.hid (Rg_8.out.below bq rfl)
      have T_9 := Lib.hid (T_8.out.trans (bq.mono T_8.out.size))
      clear bq R1_8 Rg_8 T_8
      by_cases hlt : kk < lu.length
      · skip
        obtain ⟨hok, hle⟩ := HOK.out (by omega)
        have hlt1 : kk < l1.length := by omega
        have i1 : (kk : Int) < (l1.length : Int) := by omega
        obtain ⟨aep, bep, oep, cep, hvp, hAp, hatp⟩ := Rg_9.out.form_Tik
        obtain ⟨rfl, hbp, hmp⟩ := hAp (by omega)
        cases hvp
        obtain ⟨p0, p1, p2, p3, p4⟩ := hatp kk (by omega)
        clear hAp hatp hmp
        obtain ⟨aeq, beq, oeq, ceq, hvq, hAq, hatq⟩ := R1_9.out.form_Tik
        obtain ⟨rfl, hbq, hmq⟩ := hAq (by omega)
        cases hvq
        obtain ⟨q0, q1, q2, q3, q4⟩ := hatq kk (by omega)
        clear hAq hatq hmq
        have HUK2 := Lib.hid (fun hn => HUK.out hok kk hlt1 hn)
        have HA := Lib.hid (fun W h => implRidesLeft_c (gth l1 kk) d1 W h)
        have HB := Lib.hid (fun W h => implRidesLeft_c (gth lu kk) d1 W h)
        have HCR := Lib.hid (fun W h => implCanRide_c (gth l1 kk) d1 u1 W h)
        have hbd := rl_bd (gth l1 kk) d1
        generalize rlU (gth l1 kk) d1 = A at *
        generalize rlD (gth l1 kk) d1 = B at *
        generalize rlU (gth lu kk) d1 = C at *
        generalize rlD (gth lu kk) d1 = D at *
        generalize rdOk (gth l1 kk) d1 = o1 at *
        generalize rdOk (gth lu kk) d1 = o2 at *
        generalize crV (gth l1 kk) d1 u1 = o3 at *
        generalize gth l1 kk = E1 at *
        generalize gth lu kk = E2 at *
        clear hok hle HUK HOK
        by_cases hst : E2.i = n1
        · skip
          obtain ⟨s1, s2, s3, s4, s5⟩ := HUK2.out hst
          have t1 : (E2.i != n1) = false := by simpa using hst
          subst s1 s2 s3
          have wq1 : IntKind.i64.wrap (A - 1) = A - 1 := IntWalk.i64_in _ (by omega)
          have wq2 : IntKind.i64.wrap (B - 1) = B - 1 := IntWalk.i64_in _ (by omega)
          have S4 := Lib.hid s4
          have S5 := Lib.hid s5
          clear s4 s5 hst hbd HUK2
          have HQ0 := Lib.hid (And.intro p0 (And.intro p1 (And.intro p2 (And.intro p3 p4))))
          clear HQ0
          go_wp2_with fail
          refine (HA.out _ (HTT.out.below T_9.out)).mono ?_
          rintro e wa ⟨rfl, bwa⟩
          have p0 := (bwa.cell (p := ⟨bep, oep + kk * 5, none⟩) hbp).trans p0
          have p1 := (bwa.cell (p := ⟨bep, oep + kk * 5 + 1, none⟩) hbp).trans p1
          have p2 := (bwa.cell (p := ⟨bep, oep + kk * 5 + 2, none⟩) hbp).trans p2
          have p3 := (bwa.cell (p := ⟨bep, oep + kk * 5 + 3, none⟩) hbp).trans p3
          have p4 := (bwa.cell (p := ⟨bep, oep + kk * 5 + 4, none⟩) hbp).trans p4
          have hbp := Nat.lt_of_lt_of_le hbp bwa.size
          have q0 := (bwa.cell (p := ⟨beq, oeq + kk * 5, none⟩) hbq).trans q0
          have q1 := (bwa.cell (p := ⟨beq, oeq + kk * 5 + 1, none⟩) hbq).trans q1
          have q2 := (bwa.cell (p := ⟨beq, oeq + kk * 5 + 2, none⟩) hbq).trans q2
          have q3 := (bwa.cell (p := ⟨beq, oeq + kk * 5 + 3, none⟩) hbq).trans q3
          have q4 := (bwa.cell (p := ⟨beq, oeq + kk * 5 + 4, none⟩) hbq).trans q4
          have hbq := Nat.lt_of_lt_of_le hbq bwa.size
          have TTwa := Lib.hid (T_9.out.trans (bwa.mono T_9.out.size))
          have HBwa := Lib.hid (hbl.out.trans (bwa.mono hbl.out.size))
          clear bwa
          go_wp2_with fail
          refine (HB.out _ (HTT.out.below TTwa.out)).mono ?_
          rintro e wb ⟨rfl, bwb⟩
          have p0 := (bwb.cell (p := ⟨bep, oep + kk * 5, none⟩) hbp).trans p0
          have p1 := (bwb.cell (p := ⟨bep, oep + kk * 5 + 1, none⟩) hbp).trans p1
          have p2 := (bwb.cell (p := ⟨bep, oep + kk * 5 + 2, none⟩) hbp).trans p2
          have p3 := (bwb.cell (p := ⟨bep, oep + kk * 5 + 3, none⟩) hbp).trans p3
          have p4 := (bwb.cell (p := ⟨bep, oep + kk * 5 + 4, none⟩) hbp).trans p4
          have hbp := Nat.lt_of_lt_of_le hbp bwb.size
          have q0 := (bwb.cell (p := ⟨beq, oeq + kk * 5, none⟩) hbq).trans q0
          have q1 := (bwb.cell (p := ⟨beq, oeq + kk * 5 + 1, none⟩) hbq).trans q1
          have q2 := (bwb.cell (p := ⟨beq, oeq + kk * 5 + 2, none⟩) hbq).trans q2
          have q3 := (bwb.cell (p := ⟨beq, oeq + kk * 5 + 3, none⟩) hbq).trans q3
          have q4 := (bwb.cell (p := ⟨beq, oeq + kk * 5 + 4, none⟩) hbq).trans q4
          have hbq := Nat.lt_of_lt_of_le hbq bwb.size
          have TTwb := Lib.hid (TTwa.out.trans (bwb.mono TTwa.out.size))
          have HBwb := Lib.hid (HBwa.out.trans (bwb.mono HBwa.out.size))
          clear bwb
          go_wp2_with fail
          refine (HCR.out _ (HTT.out.below TTwb.out)).mono ?_
          rintro e wc ⟨rfl, bwc⟩
          have p0 := (bwc.cell (p := ⟨bep, oep + kk * 5, none⟩) hbp).trans p0
          have p1 := (bwc.cell (p := ⟨bep, oep + kk * 5 + 1, none⟩) hbp).trans p1
          have p2 := (bwc.cell (p := ⟨bep, oep + kk * 5 + 2, none⟩) hbp).trans p2
          have p3 := (bwc.cell (p := ⟨bep, oep + kk * 5 + 3, none⟩) hbp).trans p3
          have p4 := (bwc.cell (p := ⟨bep, oep + kk * 5 + 4, none⟩) hbp).trans p4
          have hbp := Nat.lt_of_lt_of_le hbp bwc.size
          have q0 := (bwc.cell (p := ⟨beq, oeq + kk * 5, none⟩) hbq).trans q0
          have q1 := (bwc.cell (p := ⟨beq, oeq + kk * 5 + 1, none⟩) hbq).trans q1
          have q2 := (bwc.cell (p := ⟨beq, oeq + kk * 5 + 2, none⟩) hbq).trans q2
          have q3 := (bwc.cell (p := ⟨beq, oeq + kk * 5 + 3, none⟩) hbq).trans q3
          have q4 := (bwc.cell (p := ⟨beq, oeq + kk * 5 + 4, none⟩) hbq).trans q4
          have hbq := Nat.lt_of_lt_of_le hbq bwc.size
          have TTwc := Lib.hid (TTwb.out.trans (bwc.mono TTwb.out.size))
          have HBwc := Lib.hid (HBwb.out.trans (bwc.mono HBwb.out.size))
          clear bwc
          have HBR := HBwc
          cases u1 with
          | true =>
            have t2 : (C != A - 1) = false := by have := S4.out rfl; simp [this]
            clear S4 S5
            go_wp2
            go_roundw
            case rel => exact ⟨kk + 1, by omega, by go_num, HBR⟩
            case measure => simp [intOf]; omega
          | false =>
            have t2 : (D != B - 1) = false := by have := S5.out rfl; simp [this]
            clear S4 S5
            go_wp2
            go_roundw
            case rel => exact ⟨kk + 1, by omega, by go_num, HBR⟩
            case measure => simp [intOf]; omega
        · skip
          have t1 : (E2.i != n1) = true := by simpa using hst
          clear hst HUK2
          go_wp2
          go_roundw
          case rel => exact ⟨kk + 1, by omega, by go_num, hbl⟩
          case measure => simp [intOf]; omega
      · skip
        have t1 : decide ((kk : Int) < (lu.length : Int)) = false := by simp; omega
        clear HUK HOK hbl
        clear R1_9 Rg_9
        have HCode10 := Lib.hid (HC.out.below T_9.out)
        go_wp2_with fail
        refine (DrawSellTicket_any a len cap _ HCode10.out).mono ?_
        rintro e X10 ⟨v2, l2, s2, d2, rfl, r2, hl2, b10⟩
        clear HCode10
        have T_11 := Lib.hid (T_9.out.trans (b10.mono T_9.out.size))
        clear b10 T_9
        obtain ⟨a2, c2, rfl⟩ := r2.shape
        have R2_0 := Lib.hid r2
        clear r2
        have hn2 : l2.length ≤ 1048576 := by omega
        go_wp2_with fail
        refine (implSellTicket_c (.slice a2 l2.length c2) l2 s2 d2 _ R2_0.out hn2 (HTT.out.below T_11.out)).mono ?_
        rintro e Y12 ⟨vh, rfl, oh, b12⟩
        have R2_13 := Lib.hid (R2_0.out.below b12 rfl)
        have T_13 := Lib.hid (T_11.out.trans (b12.mono T_11.out.size))
        clear b12 R2_0 T_11
        obtain ⟨ah, ch, rfl⟩ := (Rs.of_own oh).shape
        have Rh_0 := Lib.hid (Rs.of_own oh)
        clear oh
        go_wp2_with fail
        refine (specSellTicket_c (.slice a2 l2.length c2) l2 s2 d2 _ R2_13.out hn2).mono ?_
        rintro e Y14 ⟨vi, rfl, oi, b14⟩
        have R2_15 := Lib.hid (R2_13.out.below b14 rfl)
        have Rh_15 := Lib.hid (Rh_0.out.below b14 rfl)
        have T_15 := Lib.hid (T_13.out.trans (b14.mono T_13.out.size))
        clear b14 R2_13 Rh_0 T_13
        obtain ⟨ai, ci, rfl⟩ := (Rs.of_own oi).shape
        have Ri_0 := Lib.hid (Rs.of_own oi)
        clear oi
        have HSK := Lib.hid (fun h => sl_keeps (l := l2) (s := s2) (d := d2) h)
        generalize slOk l2 s2 d2 = so at *
        generalize slR l2 s2 d2 = ls at *
        generalize slV l2 s2 d2 = sv at *
        go_wp2_with fail
        refine (rTickets_same (.slice ah ls.length ch) (.slice ai ls.length ci) ls _ Rh_15.out Ri_0.out).mono ?_
        rintro e Y16 ⟨rfl, b16⟩
        have R2_17 := Lib.hid (R2_15.out.below b16 rfl)
        have Rh_17 := Lib.hid (Rh_15.out.below b16 rfl)
        have Ri_17 := Lib.hid (Ri_0.out.below b16 rfl)
        have T_17 := Lib.hid (T_15.out.trans (b16.mono T_15.out.size))
        clear b16 R2_15 Rh_15 Ri_0 T_15
        clear Ri_17 R2_17
        go_upto_if 196 with fail
        go_cut [] from 29 (fun wy => Hid (Below Y16.heap.size Y16 wy))
        case first =>
          as_aux_lemma =>
          cases so with
          | false =>
            go_wp2
            go_meet
            case rel => exact Lib.hid (Below.refl _ _)
          | true =>
            obtain ⟨h1, h2, h3, h4, h5⟩ := HSK.out rfl
            have EU := Lib.hid (fun W h hh => implUseTicket_c (.slice ah ls.length ch) ls sv d2 true W h (by omega) hh)
            rw [h1] at EU
            have EX := Lib.hid (fun W h hh => implExpiredOn_c (.slice ah ls.length ch) ls d2 W h (by omega) hh)
            rw [h2] at EX
            have EA := Lib.hid (fun W h hh => implAreTickets_c (.slice ah ls.length ch) ls W h (by omega) hh)
            rw [h4] at EA
            have hle := exR_len ls d2
            have HNI := Lib.hid h3
            generalize exR ls d2 = le0 at *
            have hY := Lib.hid (Below.refl Y16.heap.size Y16)
            clear h1 h2 h3 h4 h5 HSK
            go_wp2_with fail
            refine (EU.out _ Rh_17.out (HTT.out.below T_17.out)).mono ?_
            rintro e wj ⟨vj, rfl, oj, bwj⟩
            have hYwj := Lib.hid (hY.out.trans (bwj.mono hY.out.size))
            have Rh_18 := Lib.hid (Rh_17.out.below bwj rfl)
            have T_18 := Lib.hid (T_17.out.trans (bwj.mono T_17.out.size))
            clear bwj Rh_17 T_17
            obtain ⟨aj, cj, rfl⟩ := (Rs.of_own oj).shape
            clear oj
            go_wp2_with fail
            refine (EX.out _ Rh_18.out (HTT.out.below T_18.out)).mono ?_
            rintro e wk ⟨vk, rfl, ok2, bwk⟩
            have hYwk := Lib.hid (hYwj.out.trans (bwk.mono hYwj.out.size))
            have Rh_19 := Lib.hid (Rh_18.out.below bwk rfl)
            have T_19 := Lib.hid (T_18.out.trans (bwk.mono T_18.out.size))
            clear bwk Rh_18 T_18
            obtain ⟨ak, ck, rfl⟩ := (Rs.of_own ok2).shape
            have Rk_0 := Lib.hid (Rd.of_own ok2)
            clear ok2
            go_wp2_with fail
            refine (rHas_b (.slice ak le0.length ck) le0 sv false _ Rk_0.out (by omega) (by simpa using HNI.out)).mono ?_
            rintro e wm ⟨rfl, bwm⟩
            have hYwm := Lib.hid (hYwk.out.trans (bwm.mono hYwk.out.size))
            have Rh_20 := Lib.hid (Rh_19.out.below bwm rfl)
            have Rk_20 := Lib.hid (Rk_0.out.below bwm rfl)
            have T_20 := Lib.hid (T_19.out.trans (bwm.mono T_19.out.size))
            clear bwm Rh_19 Rk_0 T_19
            go_wp2_with fail
            refine (EA.out _ Rh_20.out (HTT.out.below T_20.out)).mono ?_
            rintro e wn ⟨rfl, bwn⟩
            have hYwn := Lib.hid (hYwm.out.trans (bwn.mono hYwm.out.size))
            have Rh_21 := Lib.hid (Rh_20.out.below bwn rfl)
            have Rk_21 := Lib.hid (Rk_20.out.below bwn rfl)
            have T_21 := Lib.hid (T_20.out.trans (bwn.mono T_20.out.size))
            clear bwn Rh_20 Rk_20 T_20
            go_wp2
            go_meet
            case rel => exact hYwn
        case rest =>
          obtain ⟨wy, hwy⟩ := namedT hcut
          subst hwy
          have b72 := hcut.out
          clear hcut HSK
          clear Rh_17
          have T_22 := Lib.hid (T_17.out.trans (b72.mono T_17.out.size))
          clear b72 T_17
          have HCode23 := Lib.hid (HC.out.below T_22.out)
          go_wp2_with fail
          refine (DrawExpiredOn_any a len cap _ HCode23.out).mono ?_
          rintro e X23 ⟨v3, l3, d3, rfl, r3, hl3, b23⟩
          clear HCode23
          have T_24 := Lib.hid (T_22.out.trans (b23.mono T_22.out.size))
          clear b23 T_22
          obtain ⟨a3, c3, rfl⟩ := r3.shape
          have R3_0 := Lib.hid r3
          clear r3
          have hn3 : l3.length ≤ 1048576 := by omega
          go_wp2_with fail
          refine (implExpiredOn_c (.slice a3 l3.length c3) l3 d3 _ R3_0.out hn3 (HTT.out.below T_24.out)).mono ?_
          rintro e Y25 ⟨vn, rfl, on, b25⟩
          have R3_26 := Lib.hid (R3_0.out.below b25 rfl)
          have T_26 := Lib.hid (T_24.out.trans (b25.mono T_24.out.size))
          clear b25 R3_0 T_24
          obtain ⟨an, cn, rfl⟩ := (Rs.of_own on).shape
          have Rn_0 := Lib.hid (Rd.of_own on)
          clear on
          go_wp2_with fail
          refine (specExpiredOn_c (.slice a3 l3.length c3) l3 d3 _ R3_26.out hn3).mono ?_
          rintro e Y27 ⟨vo, rfl, oo, b27⟩
          have R3_28 := Lib.hid (R3_26.out.below b27 rfl)
          have Rn_28 := Lib.hid (Rn_0.out.below b27 rfl)
          have T_28 := Lib.hid (T_26.out.trans (b27.mono T_26.out.size))
          clear b27 R3_26 Rn_0 T_26
          obtain ⟨ao, co, rfl⟩ := (Rs.of_own oo).shape
          have Ro_0 := Lib.hid (Rd.of_own oo)
          clear oo
          have HEK := Lib.hid (fun h (i : Nat) hi => ex_keeps (l := l3) (d := d3) h i hi)
          have hle3 := exR_len l3 d3
          generalize exOk l3 d3 = eo at *
          generalize exR l3 d3 = le at *
          go_wp2_with fail
          refine (rInts_c (.slice an le.length cn) (.slice ao le.length co) le _ Rn_28.out Ro_0.out).mono ?_
          rintro e Y29 ⟨rfl, b29⟩
          have R3_30 := Lib.hid (R3_28.out.below b29 rfl)
          have Rn_30 := Lib.hid (Rn_28.out.below b29 rfl)
          have Ro_30 := Lib.hid (Ro_0.out.below b29 rfl)
          have T_30 := Lib.hid (T_28.out.trans (b29.mono T_28.out.size))
          clear b29 R3_28 Rn_28 Ro_0 T_28
          clear Ro_30
          go_upto_block 2 with fail
          go_cut [] from 39 (fun wz => Hid (Below Y29.heap.size Y29 wz))
          case first =>
            as_aux_lemma =>
            go_wp2_with fail
            go_loopw [39] (fun i wr => ∃ kk : Nat, kk ≤ l3.length ∧ i = .int .i64 (kk : Int) ∧ Hid (Below Y29.heap.size Y29 wr)) (fun i _ => l3.length - (intOf i).toNat)
            case atStart => exact ⟨0, by omega, rfl, Lib.hid (Below.refl _ _)⟩
            case round =>
              obtain ⟨kj, hkj, rfl, hbl3⟩ := hrel
              have bq3 := hbl3.out
              have R3_31 := Lib.hid (R3_30.out.below bq3 rfl)
              have Rn_31 := Lib.hid (Rn_30.out.below bq3 rfl)
              have T_31 := Lib.hid (T_30.out.trans (bq3.mono T_30.out.size))
              clear bq3 R3_30 Rn_30 T_30
              by_cases hlt3 : kj < l3.length
              · cases eo with
                | false =>
                  go_wp2
                  go_meet
                  case rel => exact hbl3
                | true =>
                  have i1 : (kj : Int) < (l3.length : Int) := by omega
                  obtain ⟨aeq, beq, oeq, ceq, hvq, hAq, hatq⟩ := R3_31.out.form_Tik
                  obtain ⟨rfl, hbq, hmq⟩ := hAq (by omega)
                  cases hvq
                  obtain ⟨q0, q1, q2, q3, q4⟩ := hatq kj (by omega)
                  clear hAq hatq hmq
                  obtain ⟨s1, s2⟩ := HEK.out (by first | rfl | trivial) kj hlt3
                  have S2 := Lib.hid s2
                  have HA := Lib.hid (fun W h => implRidesLeft_c (gth l3 kj) d3 W h)
                  have hbd := rl_bd (gth l3 kj) d3
                  rw [s1] at HA
                  generalize rlU (gth l3 kj) d3 = A at *
                  generalize rlD (gth l3 kj) d3 = B at *
                  generalize gth l3 kj = E1 at *
                  have wq1 : IntKind.i64.wrap (A + B) = A + B := IntWalk.i64_in _ (by omega)
                  clear s1 s2 hbd HEK
                  go_wp2_with fail
                  refine (HA.out _ (HTT.out.below T_31.out)).mono ?_
                  rintro e wa ⟨rfl, bwa⟩
                  have q0 := (bwa.cell (p := ⟨beq, oeq + kj * 5, none⟩) hbq).trans q0
                  have q1 := (bwa.cell (p := ⟨beq, oeq + kj * 5 + 1, none⟩) hbq).trans q1
                  have q2 := (bwa.cell (p := ⟨beq, oeq + kj * 5 + 2, none⟩) hbq).trans q2
                  have q3 := (bwa.cell (p := ⟨beq, oeq + kj * 5 + 3, none⟩) hbq).trans q3
                  have q4 := (bwa.cell (p := ⟨beq, oeq + kj * 5 + 4, none⟩) hbq).trans q4
                  have hbq := Nat.lt_of_lt_of_le hbq bwa.size
                  have HB3a := Lib.hid (hbl3.out.trans (bwa.mono hbl3.out.size))
                  have R3_32 := Lib.hid (R3_31.out.below bwa rfl)
                  have Rn_32 := Lib.hid (Rn_31.out.below bwa rfl)
                  have T_32 := Lib.hid (T_31.out.trans (bwa.mono T_31.out.size))
                  clear bwa R3_31 Rn_31 T_31
                  by_cases hm : E1.i ∈ le
                  · skip
                    have HRH := Lib.hid (fun W h => rHas_b (.slice an le.length cn) le E1.i true W h (by omega) (by simp [hm]))
                    have t5 : decide (0 < A + B) = false := by have := S2.out hm; simp; omega
                    clear S2 hm
                    go_wp2_with fail
                    refine (HRH.out _ Rn_32.out).mono ?_
                    rintro e wb ⟨rfl, bwb⟩
                    have HB3b := Lib.hid (HB3a.out.trans (bwb.mono HB3a.out.size))
                    clear bwb HB3a
                    go_wp2
                    go_roundw
                    case rel => exact ⟨kj + 1, by omega, by go_num, HB3b⟩
                    case measure => simp [intOf]; omega
                  · skip
                    have HRH := Lib.hid (fun W h => rHas_b (.slice an le.length cn) le E1.i false W h (by omega) (by simp [hm]))
                    clear S2 hm
                    go_wp2_with fail
                    refine (HRH.out _ Rn_32.out).mono ?_
                    rintro e wb ⟨rfl, bwb⟩
                    have HB3b := Lib.hid (HB3a.out.trans (bwb.mono HB3a.out.size))
                    clear bwb HB3a
                    go_wp2
                    go_roundw
                    case rel => exact ⟨kj + 1, by omega, by go_num, HB3b⟩
                    case measure => simp [intOf]; omega
              · skip
                have t1 : decide ((kj : Int) < (l3.length : Int)) = false := by simp; omega
                go_wp2
                go_meet
                case rel => exact hbl3
          case rest =>
            obtain ⟨wz, hwz⟩ := namedT hcut
            subst hwz
            have b73 := hcut.out
            clear hcut HEK
            clear R3_30 Rn_30
            have T_33 := Lib.hid (T_30.out.trans (b73.mono T_30.out.size))
            clear b73 T_30
            have HCode34 := Lib.hid (HC.out.below T_33.out)
            go_wp2_with fail
            refine (DrawCanRide_any a len cap _ HCode34.out).mono ?_
            rintro e X34 ⟨x4, d4, u4, rfl, b34⟩
            clear HCode34
            unfold Tik.agg
            have T_35 := Lib.hid (T_33.out.trans (b34.mono T_33.out.size))
            clear b34 T_33
            have HT9 := Lib.hid (T_35.out.alloc T_35.out.size (.cells #[.int .i64 x4.i, .int .i64 x4.s, .int .i64 x4.w, .int .i64 x4.g, .int .i64 x4.p] 31))
            have HX9 := Lib.hid (box_Tik X34 x4 31 _ rfl)
            have HS9 : Hid ((X34.alloc (.cells #[.int .i64 x4.i, .int .i64 x4.s, .int .i64 x4.w, .int .i64 x4.g, .int .i64 x4.p] 31)).heap.size = X34.heap.size + 1) := Lib.hid (by simp)
            have HI := Lib.hid (fun W h => implCanRide_c x4 d4 u4 W h)
            have HJ := Lib.hid (fun W => specCanRide_c x4 d4 u4 W)
            have HM := Lib.hid (fun W h => implIsTicket_c x4 W h)
            have HN := Lib.hid (fun W => specIsTicket_c x4 W)
            generalize crV x4 d4 u4 = cv at *
            generalize rdOk x4 d4 = ro at *
            generalize isT x4 = it at *
            go_wp2_with fail
            generalize hwf : X34.alloc (.cells #[.int .i64 x4.i, .int .i64 x4.s, .int .i64 x4.w, .int .i64 x4.g, .int .i64 x4.p] 31) = wf at *
            obtain ⟨k0, k1, k2, k3, k4⟩ := HX9.out wf (Below.refl _ _)
            clear hwf
            refine (HI.out _ (HTT.out.below HT9.out)).mono ?_
            rintro e wg ⟨rfl, bg⟩
            have HTg := Lib.hid (HT9.out.trans (bg.mono HT9.out.size))
            clear k0 k1 k2 k3 k4
            obtain ⟨k0, k1, k2, k3, k4⟩ := HX9.out wg (by rw [← HS9.out]; exact bg)
            go_wp2_with fail
            refine (HJ.out _).mono ?_
            rintro e wi ⟨rfl, bi⟩
            have bgi := bg.trans (bi.mono bg.size)
            have HTi := Lib.hid (HTg.out.trans (bi.mono HTg.out.size))
            clear k0 k1 k2 k3 k4
            obtain ⟨k0, k1, k2, k3, k4⟩ := HX9.out wi (by rw [← HS9.out]; exact bgi)
            have Q0 : ∀ x : Aft wi, x.w.cell? ⟨X34.heap.size, 0, none⟩ = some (.int .i64 x4.i) := fun x => x.cell k0
            have Q1 : ∀ x : Aft wi, x.w.cell? ⟨X34.heap.size, 1, none⟩ = some (.int .i64 x4.s) := fun x => x.cell k1
            have Q2 : ∀ x : Aft wi, x.w.cell? ⟨X34.heap.size, 2, none⟩ = some (.int .i64 x4.w) := fun x => x.cell k2
            have Q3 : ∀ x : Aft wi, x.w.cell? ⟨X34.heap.size, 3, none⟩ = some (.int .i64 x4.g) := fun x => x.cell k3
            have Q4 : ∀ x : Aft wi, x.w.cell? ⟨X34.heap.size, 4, none⟩ = some (.int .i64 x4.p) := fun x => x.cell k4
            have HTA : Hid (∀ x : Aft wi, RulP x.w) := Lib.hid (fun x => (HTT.out.below HTi.out).below x.below)
            clear k0 k1 k2 k3 k4 bg bi bgi HX9
            go_upto_region 41 with fail
            refine wp_region_aft (w0 := wi) (by kernel_rfl) (by kernel_rfl) (Below.refl _ _) ?_
            repeat (go_big_quiet_step (first | (go_at_call 33; exact aft_of (HM.out _ (HTA.out _))) | (go_at_call 34; exact aft_of (HN.out _)) | fail))
            refine wpQuiet_nil ?_
            rintro _ ⟨xz, rfl⟩
            go_wp2
            go_ret
            exact ⟨by simp, HTi.out.trans (xz.below.mono HTi.out.size)⟩
end Go.Proofs.YtpknodbkjjcdjaaDoor
