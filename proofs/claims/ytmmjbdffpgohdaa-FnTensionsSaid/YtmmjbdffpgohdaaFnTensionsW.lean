/- The law FnTensions's walk. Condition: sizes. -/
import Derived.Test.YtmmjbdffpgohdaaTenLaw
import Derived.WalkArith
import Derived.Deep.CutRange
import Derived.Deep.CutBlock
import Derived.Deep.DeepCutAuto
namespace Go.Proofs.Ytmmjbdffpgohdaa
open Go.RowKit
set_option linter.unusedVariables false
theorem named6 {a w' : World} {B : Nat} (h : Hid (Below B a w')) : ∃ W : World, W = w' := ⟨_, rfl⟩
theorem blk_kept {w w' : World} {b : Nat} {o : Obj} (h : w.heap[b]? = some o) (k : Below w.heap.size w w') : w'.heap[b]? = some o := blk_keep h k (blk_lt h)
theorem at6 {w : World} {a : Option Addr} {c : Nat} {l : List Int} (h : Rd w (.slice a l.length c) (intVs l)) (h0 : 0 < l.length) :
    ∃ b off, a = some ⟨b, off, none⟩ ∧ b < w.heap.size ∧ ∀ i, i < l.length → w.cell? ⟨b, off + i, none⟩ = some (.int .i64 (l.getD i 0)) := by
  obtain ⟨b, off, cap, hv, hb, _, hx⟩ := h.iv (by intro e; rw [e] at h0; simp at h0)
  simp only [Value.slice.injEq] at hv
  exact ⟨b, off, hv.1, hb, hx⟩
set_option maxRecDepth 100000 in
set_option maxHeartbeats 4000000 in
theorem FnTensions_walk (a : Option Addr) (len cap : Nat) (w : World) (h : ByteRow w a len) :
    Calls Try.prog 4 #[.slice a len cap] w fun e w' => e = .returned (.bool true) ∧ Below w.heap.size w w' := by
  have hm := h.1
  have HC := Lib.hid h
  clear h
  by_cases hbig : 65536 < len
  · go_enter Try.func4, Try.ntmps4
    go_wp2_with fail
    refine (vBig_yes a len cap _ hbig hm).mono ?_
    rintro e w' ⟨rfl, rfl⟩
    go_wp2_with fail
    go_ret
    exact ⟨rfl, Below.refl _ _⟩
  · go_enter Try.func4, Try.ntmps4
    go_wp2_with fail
    refine (vBig_no a len cap _ (by omega)).mono ?_
    rintro e w' ⟨rfl, rfl⟩
    have T0 := Lib.hid (Below.refl w.heap.size w)
    have HCode1 := Lib.hid (HC.out.below T0.out)
    go_wp2_with fail
    refine (DrawDriveForce_any a len cap _ HCode1.out).mono ?_
    rintro e X1 ⟨v1, l1, x1, rfl, hr1, hl1, hwf1, b1, hbl1⟩
    clear HCode1 hwf1 hbl1
    have T_2 := Lib.hid (T0.out.trans (b1.mono T0.out.size))
    clear b1 T0
    have hn1 : l1.length ≤ 1048576 := by omega
    obtain ⟨va1, oa1, ca1, hv, hla1, hm1, hsu⟩ := hr1.sup (by omega)
    subst hv
    have Rq1_0 := Lib.hid hr1
    clear hr1 hsu
    have Rq1_3 := Lib.hid (Rq1_0.out.below ((Below.refl X1.heap.size X1).alloc (Nat.le_refl _) (.cells #[.int .i64 x1.w, .int .i64 x1.c, .int .i64 x1.r] 44)) rfl)
    have T_3 := Lib.hid (T_2.out.alloc T_2.out.size (.cells #[.int .i64 x1.w, .int .i64 x1.c, .int .i64 x1.r] 44))
    have Kx1_3 := Lib.hid (blk_new3 X1 (.int .i64 x1.w) (.int .i64 x1.c) (.int .i64 x1.r) 44)
    clear Rq1_0 T_2
    obtain ⟨kx10, kx11, kx12⟩ := blk_cell3 Kx1_3.out
    go_wp2_with fail
    clear kx10 kx11 kx12
    generalize hW4 : X1.alloc (.cells #[.int .i64 x1.w, .int .i64 x1.c, .int .i64 x1.r] 44) = Z4 at *
    clear hW4
    refine (implDriveForce_c (.slice (some ⟨va1, oa1, none⟩) l1.length ca1) l1 x1 _ Rq1_3.out hn1).mono ?_
    rintro e Y5 ⟨rfl, b5⟩
    have Kx1_6 := Lib.hid (blk_kept Kx1_3.out b5)
    have Rq1_6 := Lib.hid (Rq1_3.out.below b5 rfl)
    have T_6 := Lib.hid (T_3.out.trans (b5.mono T_3.out.size))
    clear b5 Kx1_3 Rq1_3 T_3
    obtain ⟨kx10, kx11, kx12⟩ := blk_cell3 Kx1_6.out
    go_wp2_with fail
    clear kx10 kx11 kx12
    refine (specDriveForce_c (.slice (some ⟨va1, oa1, none⟩) l1.length ca1) l1 x1 _ Rq1_6.out hn1).mono ?_
    rintro e Y7 ⟨rfl, b7⟩
    have Kx1_8 := Lib.hid (blk_kept Kx1_6.out b7)
    have Rq1_8 := Lib.hid (Rq1_6.out.below b7 rfl)
    have T_8 := Lib.hid (T_6.out.trans (b7.mono T_6.out.size))
    clear b7 Kx1_6 Rq1_6 T_6
    have HK := Lib.hid (fun h => df_keeps (l := l1) (x := x1) h)
    obtain ⟨kx10, kx11, kx12⟩ := blk_cell3 Kx1_8.out
    go_wp2_with fail
    clear kx10 kx11 kx12
    generalize dfV l1 x1 = dv at *
    generalize dfOk l1 x1 = ok at *
    obtain ⟨kx10, kx11, kx12⟩ := blk_cell3 Kx1_8.out
    have q0 : ∀ x : Aft Y7, x.w.cell? ⟨X1.heap.size, 0, none⟩ = some (.int .i64 x1.w) := fun x => x.cell kx10
    have q1 : ∀ x : Aft Y7, x.w.cell? ⟨X1.heap.size, 1, none⟩ = some (.int .i64 x1.c) := fun x => x.cell kx11
    have q2 : ∀ x : Aft Y7, x.w.cell? ⟨X1.heap.size, 2, none⟩ = some (.int .i64 x1.r) := fun x => x.cell kx12
    clear kx10 kx11 kx12
    have HI := Lib.hid (fun x : Aft Y7 => implIsLoadCase_c x1 x.w)
    have HJ := Lib.hid (fun x : Aft Y7 => specIsLoadCase_c x1 x.w)
    generalize isLC x1 = lc1 at *
    refine wp_region_aft (w0 := Y7) (by kernel_rfl) (by kernel_rfl) (Below.refl _ _) ?_
    repeat (go_big_quiet_step (first | (go_at_call 24; exact aft_of (HI.out _)) | (go_at_call 25; exact aft_of (HJ.out _)) | fail))
    refine wpQuiet_nil ?_
    rintro Y60 ⟨⟨_, b60⟩, rfl⟩
    try simp only []
    clear q0 q1 q2 HI HJ
    have Kx1_9 := Lib.hid (blk_kept Kx1_8.out b60)
    have Rq1_9 := Lib.hid (Rq1_8.out.below b60 rfl)
    have T_9 := Lib.hid (T_8.out.trans (b60.mono T_8.out.size))
    clear b60 Kx1_8 Rq1_8 T_8
    obtain ⟨kx10, kx11, kx12⟩ := blk_cell3 Kx1_9.out
    go_upto_if 75 with fail
    clear kx10 kx11 kx12
    go_cut [] from 9 (fun wx => Hid (Below Y60.heap.size Y60 wx))
    case first =>
      as_aux_lemma =>
      cases ok with
      | false =>
        go_wp2
        go_meet
        case rel => exact Lib.hid (Below.refl _ _)
      | true =>
        have hY := Lib.hid (Below.refl Y60.heap.size Y60)
        clear T_9
        obtain ⟨hu, hd, h2, h8, hx, hul, hdl, hu0, hd0, hdv, ⟨gi, hgi, hgl, hgv⟩, hall, hlok, hlv⟩ := HK.out rfl
        clear HK
        have HA := Lib.hid (fun W h => implUpTensions_c (.slice (some ⟨va1, oa1, none⟩) l1.length ca1) l1 x1 W h hn1)
        have HB := Lib.hid (fun W h => implDownTensions_c (.slice (some ⟨va1, oa1, none⟩) l1.length ca1) l1 x1 W h hn1)
        have HG := Lib.hid (fun W h => implGreatestTension_c (.slice (some ⟨va1, oa1, none⟩) l1.length ca1) l1 x1 W h hn1)
        have HE := Lib.hid (fun W h => implLeastCounter_c (.slice (some ⟨va1, oa1, none⟩) l1.length ca1) l1 x1 W h hn1)
        rw [hu] at HA HG
        rw [hd] at HB
        rw [hgi] at HG
        rw [hlok] at HE
        clear hu hd hgi hlok
        generalize tenL l1 x1 x1.r = up at *
        generalize tenL l1 x1 (-x1.r) = dn at *
        generalize gtV l1 x1 = gm at *
        generalize lcV l1 x1 = lv at *
        have HUL := Lib.hid hul
        have HDL := Lib.hid hdl
        have HAL := Lib.hid hall
        have hup0 : 0 < up.length := by omega
        have hupb : up.length ≤ 8 := by omega
        have hdn0 : 0 < dn.length := by omega
        have hgu : gi < up.length := by omega
        have hm1 : 0 ≤ 2 * x1.r * ((l1.length : Int) - 1) := Int.mul_nonneg (by omega) (by omega)
        have hm2 : 2 * x1.r * ((l1.length : Int) - 1) ≤ 2000 * 7 := Int.mul_le_mul (by omega) (by omega) (by omega) (by omega)
        have q1 : IntKind.i64.wrap (2 * x1.r) = 2 * x1.r := IntWalk.i64_in _ (by omega)
        have q2 : IntKind.i64.wrap (2 * x1.r * ((l1.length : Int) - 1)) = dv := by rw [hdv]; exact IntWalk.i64_in _ (by omega)
        have q3 : IntKind.i64.wrap ((l1.length : Int) - 1) = (l1.length : Int) - 1 := IntWalk.i64_in _ (by omega)
        have t1 : ((up.length : Int) != (l1.length : Int)) = false := by rw [hul]; simp
        have t2 : ((dn.length : Int) != (l1.length : Int)) = false := by rw [hdl]; simp
        have t1n : (up.length != l1.length) = false := by rw [hul]; simp
        have t2n : (dn.length != l1.length) = false := by rw [hdl]; simp
        have t3 : decide ((gi : Int) < 0) = false := by simp
        have t4 : decide ((l1.length : Int) ≤ (gi : Int)) = false := decide_eq_false (by omega)
        have t4n : decide (l1.length ≤ gi) = false := decide_eq_false (by omega)
        have t5 : (0 : Int) < (up.length : Int) := by omega
        have t6 : (0 : Int) < (dn.length : Int) := by omega
        have t7 : (gi : Int) < (up.length : Int) := by omega
        clear hul hdl hall hdv hm1 hm2
        obtain ⟨kx10, kx11, kx12⟩ := blk_cell3 Kx1_9.out
        go_wp2_with fail
        clear kx10 kx11 kx12
        refine (HA.out _ Rq1_9.out).mono ?_
        rintro e Y10 ⟨vu, rfl, ou, b10⟩
        have Kx1_11 := Lib.hid (blk_kept Kx1_9.out b10)
        have Rq1_11 := Lib.hid (Rq1_9.out.below b10 rfl)
        have T_11 := Lib.hid (hY.out.trans (b10.mono hY.out.size))
        clear b10 Kx1_9 Rq1_9 hY
        obtain ⟨au, cu, rfl⟩ := (Rs.of_own ou).shape
        have Ru_0 := Lib.hid (Rd.of_own ou)
        clear ou
        clear HA
        obtain ⟨kx10, kx11, kx12⟩ := blk_cell3 Kx1_11.out
        go_wp2_with fail
        clear kx10 kx11 kx12
        refine (HB.out _ Rq1_11.out).mono ?_
        rintro e Y12 ⟨vd, rfl, od, b12⟩
        have Kx1_13 := Lib.hid (blk_kept Kx1_11.out b12)
        have Rq1_13 := Lib.hid (Rq1_11.out.below b12 rfl)
        have Ru_13 := Lib.hid (Ru_0.out.below b12 rfl)
        have T_13 := Lib.hid (T_11.out.trans (b12.mono T_11.out.size))
        clear b12 Kx1_11 Rq1_11 Ru_0 T_11
        obtain ⟨ad, cd, rfl⟩ := (Rs.of_own od).shape
        have Rd_0 := Lib.hid (Rd.of_own od)
        clear od
        clear HB
        obtain ⟨ub, uo, rfl, hub, hux⟩ := at6 Ru_13.out hup0
        obtain ⟨db, do9, rfl, hdb, hdx⟩ := at6 Rd_0.out hdn0
        have HUX := Lib.hid (fun W (hW : Below Y12.heap.size Y12 W) i hi => (hW.cell (p := ⟨ub, uo + i, none⟩) hub).trans (hux i hi))
        have HDX := Lib.hid (fun W (hW : Below Y12.heap.size Y12 W) i hi => (hW.cell (p := ⟨db, do9 + i, none⟩) hdb).trans (hdx i hi))
        clear hux hdx
        have hZ := Lib.hid (Below.refl Y12.heap.size Y12)
        obtain ⟨kx10, kx11, kx12⟩ := blk_cell3 Kx1_13.out
        go_wp2_with fail
        clear kx10 kx11 kx12
        refine (HG.out _ Rq1_13.out).mono ?_
        rintro e Y14 ⟨rfl, b14⟩
        have Kx1_15 := Lib.hid (blk_kept Kx1_13.out b14)
        have Rq1_15 := Lib.hid (Rq1_13.out.below b14 rfl)
        have Ru_15 := Lib.hid (Ru_13.out.below b14 rfl)
        have Rd_15 := Lib.hid (Rd_0.out.below b14 rfl)
        have T_15 := Lib.hid (T_13.out.trans (b14.mono T_13.out.size))
        clear b14 Kx1_13 Rq1_13 Ru_13 Rd_0 T_13
        clear HG
        obtain ⟨ub2, uo2, hue, hub2, hux⟩ := at6 Ru_15.out hup0
        cases hue
        obtain ⟨db2, do2, hde, hdb2, hdx⟩ := at6 Rd_15.out hdn0
        cases hde
        clear HUX HDX hZ
        have c0 := hux 0 hup0
        rw [Nat.add_zero, hu0] at c0
        have c1 := hdx 0 hdn0
        rw [Nat.add_zero, hd0] at c1
        have c2 := hux gi hgu
        rw [hgv] at c2
        have HUX := Lib.hid hux
        have HDX := Lib.hid hdx
        clear hux hdx hu0 hd0 hgv
        obtain ⟨kx10, kx11, kx12⟩ := blk_cell3 Kx1_15.out
        go_wp2_with fail
        go_quiet (fail)
        clear kx10 kx11 kx12 c0 c1 c2 t1 t2 t1n t2n t3 t4 t4n
        go_wp2
        go_loopw [16] (fun i wr => ∃ kk m : Nat, kk ≤ up.length ∧ i = .int .i64 (kk : Int) ∧ wr = Y14.drewN m) (fun i _ => up.length - (intOf i).toNat)
        case atStart => exact ⟨0, nq, by omega, rfl, rfl⟩
        case round =>
          obtain ⟨kk, m, hk, rfl, hwr⟩ := hrel
          have HWR := Lib.hid hwr
          by_cases hlt : kk < up.length
          · have c0 : wr.cell? ⟨ub, uo + kk, none⟩ = some (.int .i64 (up.getD kk 0)) := by rw [hwr]; exact HUX.out kk hlt
            have c1 : wr.cell? ⟨db, do9 + kk, none⟩ = some (.int .i64 (dn.getD kk 0)) := by rw [hwr]; exact HDX.out kk (by have := HUL.out; have := HDL.out; omega)
            obtain ⟨h1, h3, h4⟩ := HAL.out kk (by have := HUL.out; omega)
            have u1 : (kk : Int) < (up.length : Int) := by omega
            have u2 : (kk : Int) < (dn.length : Int) := by have := HUL.out; have := HDL.out; omega
            generalize up.getD kk 0 = A at *
            generalize dn.getD kk 0 = B at *
            have d1 : decide (gm < A) = false := decide_eq_false (by omega)
            have d2 : decide (A < B) = false := decide_eq_false (by omega)
            have d3 : decide (B < 0) = false := decide_eq_false (by omega)
            clear hwr h1 h3 h4
            go_wp2_with fail
            go_quiet (fail)
            go_wp2
            go_roundw
            case rel => exact ⟨kk + 1, m + nq, by omega, by go_num, by rw [HWR.out, World.drewN_drewN]⟩
            case measure => simp [intOf]; omega
          · skip
            have u1 : decide ((kk : Int) < (up.length : Int)) = false := decide_eq_false (by omega)
            have bq : Below Y14.heap.size Y14 (Y14.drewN m) := below_drewN (Below.refl _ _) m
            have d4 : decide (x1.c < lv) = false := decide_eq_false (by omega)
            have u2 : ¬ (kk : Int) < (up.length : Int) := by omega
            have Kx1_16 := Lib.hid (blk_kept Kx1_15.out bq)
            have Rq1_16 := Lib.hid (Rq1_15.out.below bq rfl)
            have Ru_16 := Lib.hid (Ru_15.out.below bq rfl)
            have Rd_16 := Lib.hid (Rd_15.out.below bq rfl)
            have T_16 := Lib.hid (T_15.out.trans (bq.mono T_15.out.size))
            clear bq Kx1_15 Rq1_15 Ru_15 Rd_15 T_15
            obtain ⟨kx10, kx11, kx12⟩ := blk_cell3 Kx1_16.out
            go_wp2_with fail
            clear kx10 kx11 kx12
            refine (HE.out _ Rq1_16.out).mono ?_
            rintro e Y17 ⟨rfl, b17⟩
            have Kx1_18 := Lib.hid (blk_kept Kx1_16.out b17)
            have Rq1_18 := Lib.hid (Rq1_16.out.below b17 rfl)
            have Ru_18 := Lib.hid (Ru_16.out.below b17 rfl)
            have Rd_18 := Lib.hid (Rd_16.out.below b17 rfl)
            have T_18 := Lib.hid (T_16.out.trans (b17.mono T_16.out.size))
            clear b17 Kx1_16 Rq1_16 Ru_16 Rd_16 T_16
            obtain ⟨kx10, kx11, kx12⟩ := blk_cell3 Kx1_18.out
            go_wp2
            go_meet
            case rel => exact T_18
    case rest =>
      obtain ⟨wx, hwx⟩ := named6 hcut
      subst hwx
      have b71 := hcut.out
      clear hcut HK
      clear Kx1_9 Rq1_9
      have T_10 := Lib.hid (T_9.out.trans (b71.mono T_9.out.size))
      clear b71 T_9
      have HCode11 := Lib.hid (HC.out.below T_10.out)
      go_wp2_with fail
      refine (DrawLeastCounter_any a len cap _ HCode11.out).mono ?_
      rintro e X11 ⟨v2, l2, x2, rfl, hr2, hl2, hwf2, b11, hbl2⟩
      clear HCode11 hwf2 hbl2
      have T_12 := Lib.hid (T_10.out.trans (b11.mono T_10.out.size))
      clear b11 T_10
      have hn2 : l2.length ≤ 1048576 := by omega
      obtain ⟨va2, oa2, ca2, hv, hla2, hm2, hsu⟩ := hr2.sup (by omega)
      subst hv
      have Rq2_0 := Lib.hid hr2
      clear hr2 hsu
      have Rq2_13 := Lib.hid (Rq2_0.out.below ((Below.refl X11.heap.size X11).alloc (Nat.le_refl _) (.cells #[.int .i64 x2.w, .int .i64 x2.c, .int .i64 x2.r] 44)) rfl)
      have T_13 := Lib.hid (T_12.out.alloc T_12.out.size (.cells #[.int .i64 x2.w, .int .i64 x2.c, .int .i64 x2.r] 44))
      have Kx2_13 := Lib.hid (blk_new3 X11 (.int .i64 x2.w) (.int .i64 x2.c) (.int .i64 x2.r) 44)
      clear Rq2_0 T_12
      obtain ⟨kx20, kx21, kx22⟩ := blk_cell3 Kx2_13.out
      go_wp2_with fail
      clear kx20 kx21 kx22
      generalize hW14 : X11.alloc (.cells #[.int .i64 x2.w, .int .i64 x2.c, .int .i64 x2.r] 44) = Z14 at *
      clear hW14
      refine (implLeastCounter_c (.slice (some ⟨va2, oa2, none⟩) l2.length ca2) l2 x2 _ Rq2_13.out hn2).mono ?_
      rintro e Y15 ⟨rfl, b15⟩
      have Kx2_16 := Lib.hid (blk_kept Kx2_13.out b15)
      have Rq2_16 := Lib.hid (Rq2_13.out.below b15 rfl)
      have T_16 := Lib.hid (T_13.out.trans (b15.mono T_13.out.size))
      clear b15 Kx2_13 Rq2_13 T_13
      obtain ⟨kx20, kx21, kx22⟩ := blk_cell3 Kx2_16.out
      go_wp2_with fail
      clear kx20 kx21 kx22
      refine (specLeastCounter_c (.slice (some ⟨va2, oa2, none⟩) l2.length ca2) l2 x2 _ Rq2_16.out hn2).mono ?_
      rintro e Y17 ⟨rfl, b17⟩
      have Kx2_18 := Lib.hid (blk_kept Kx2_16.out b17)
      have Rq2_18 := Lib.hid (Rq2_16.out.below b17 rfl)
      have T_18 := Lib.hid (T_16.out.trans (b17.mono T_16.out.size))
      clear b17 Kx2_16 Rq2_16 T_16
      have HK := Lib.hid (fun h => lc_keeps (l := l2) (x := x2) h)
      generalize lcV l2 x2 = lv at *
      generalize lcOk l2 x2 = told at *
      obtain ⟨kx20, kx21, kx22⟩ := blk_cell3 Kx2_18.out
      go_upto_if 233 with fail
      clear kx20 kx21 kx22
      go_cut [] from 25 (fun wy => Hid (Below Y17.heap.size Y17 wy))
      case first =>
        as_aux_lemma =>
        cases told with
        | false =>
          go_wp2
          go_meet
          case rel => exact Lib.hid (Below.refl _ _)
        | true =>
          have hY := Lib.hid (Below.refl Y17.heap.size Y17)
          clear T_18
          obtain ⟨h1, h2, h3⟩ := HK.out rfl
          clear HK
          have HA := Lib.hid (fun W h => implDriveForce_c (.slice (some ⟨va2, oa2, none⟩) l2.length ca2) l2 ⟨x2.w, lv, x2.r⟩ W h hn2)
          have HB := Lib.hid (fun W h => implDriveForce_c (.slice (some ⟨va2, oa2, none⟩) l2.length ca2) l2 ⟨x2.w, lv - 1, x2.r⟩ W h hn2)
          rw [h1] at HA
          rw [h2] at HB
          clear h1 h2
          generalize dfV l2 ⟨x2.w, lv, x2.r⟩ = f1 at *
          generalize dfV l2 ⟨x2.w, lv - 1, x2.r⟩ = f2 at *
          have q1 : IntKind.i64.wrap (lv - 1) = lv - 1 := IntWalk.i64_in _ (by omega)
          obtain ⟨kx20, kx21, kx22⟩ := blk_cell3 Kx2_18.out
          go_wp2_with fail
          clear kx20 kx21 kx22
          refine (HA.out _ Rq2_18.out).mono ?_
          rintro e Y19 ⟨rfl, b19⟩
          have Kx2_20 := Lib.hid (blk_kept Kx2_18.out b19)
          have Rq2_20 := Lib.hid (Rq2_18.out.below b19 rfl)
          have T_20 := Lib.hid (hY.out.trans (b19.mono hY.out.size))
          clear b19 Kx2_18 Rq2_18 hY
          clear HA
          obtain ⟨kx20, kx21, kx22⟩ := blk_cell3 Kx2_20.out
          go_wp2_with fail
          clear kx20 kx21 kx22
          refine (HB.out _ Rq2_20.out).mono ?_
          rintro e Y21 ⟨rfl, b21⟩
          have Kx2_22 := Lib.hid (blk_kept Kx2_20.out b21)
          have Rq2_22 := Lib.hid (Rq2_20.out.below b21 rfl)
          have T_22 := Lib.hid (T_20.out.trans (b21.mono T_20.out.size))
          clear b21 Kx2_20 Rq2_20 T_20
          clear HB
          go_wp2
          go_meet
          case rel => exact T_22
      case rest =>
        obtain ⟨wy, hwy⟩ := named6 hcut
        subst hwy
        have b72 := hcut.out
        clear hcut HK
        clear Kx2_18 Rq2_18
        have T_19 := Lib.hid (T_18.out.trans (b72.mono T_18.out.size))
        clear b72 T_18
        have HCode20 := Lib.hid (HC.out.below T_19.out)
        go_wp2_with fail
        refine (DrawUpTensions_any a len cap _ HCode20.out).mono ?_
        rintro e X20 ⟨v3, l3, x3, rfl, hr3, hl3, hwf3, b20, hbl3⟩
        clear HCode20 hwf3 hbl3
        have T_21 := Lib.hid (T_19.out.trans (b20.mono T_19.out.size))
        clear b20 T_19
        have hn3 : l3.length ≤ 1048576 := by omega
        obtain ⟨va3, oa3, ca3, hv, hla3, hm3, hsu⟩ := hr3.sup (by omega)
        subst hv
        have Rq3_0 := Lib.hid hr3
        clear hr3 hsu
        have Rq3_22 := Lib.hid (Rq3_0.out.below ((Below.refl X20.heap.size X20).alloc (Nat.le_refl _) (.cells #[.int .i64 x3.w, .int .i64 x3.c, .int .i64 x3.r] 44)) rfl)
        have T_22 := Lib.hid (T_21.out.alloc T_21.out.size (.cells #[.int .i64 x3.w, .int .i64 x3.c, .int .i64 x3.r] 44))
        have Kx3_22 := Lib.hid (blk_new3 X20 (.int .i64 x3.w) (.int .i64 x3.c) (.int .i64 x3.r) 44)
        clear Rq3_0 T_21
        obtain ⟨kx30, kx31, kx32⟩ := blk_cell3 Kx3_22.out
        go_wp2_with fail
        clear kx30 kx31 kx32
        generalize hW23 : X20.alloc (.cells #[.int .i64 x3.w, .int .i64 x3.c, .int .i64 x3.r] 44) = Z23 at *
        clear hW23
        refine (implUpTensions_c (.slice (some ⟨va3, oa3, none⟩) l3.length ca3) l3 x3 _ Rq3_22.out hn3).mono ?_
        rintro e Y24 ⟨vg3, rfl, og3, b24⟩
        have Kx3_25 := Lib.hid (blk_kept Kx3_22.out b24)
        have Rq3_25 := Lib.hid (Rq3_22.out.below b24 rfl)
        have T_25 := Lib.hid (T_22.out.trans (b24.mono T_22.out.size))
        clear b24 Kx3_22 Rq3_22 T_22
        obtain ⟨ag3, cg3, rfl⟩ := (Rs.of_own og3).shape
        have Rg3_0 := Lib.hid (Rd.of_own og3)
        clear og3
        obtain ⟨kx30, kx31, kx32⟩ := blk_cell3 Kx3_25.out
        go_wp2_with fail
        clear kx30 kx31 kx32
        refine (specUpTensions_c (.slice (some ⟨va3, oa3, none⟩) l3.length ca3) l3 x3 _ Rq3_25.out hn3).mono ?_
        rintro e Y26 ⟨vh3, rfl, oh3, b26⟩
        have Kx3_27 := Lib.hid (blk_kept Kx3_25.out b26)
        have Rq3_27 := Lib.hid (Rq3_25.out.below b26 rfl)
        have Rg3_27 := Lib.hid (Rg3_0.out.below b26 rfl)
        have T_27 := Lib.hid (T_25.out.trans (b26.mono T_25.out.size))
        clear b26 Kx3_25 Rq3_25 Rg3_0 T_25
        obtain ⟨ah3, ch3, rfl⟩ := (Rs.of_own oh3).shape
        have Rh3_0 := Lib.hid (Rd.of_own oh3)
        clear oh3
        generalize tenL l3 x3 x3.r = t3 at *
        generalize tenOk l3 x3 x3.r = k3 at *
        obtain ⟨kx30, kx31, kx32⟩ := blk_cell3 Kx3_27.out
        go_wp2_with fail
        clear kx30 kx31 kx32
        refine (vIntsT_c (.slice ag3 t3.length cg3) (.slice ah3 t3.length ch3) t3 _ Rg3_27.out Rh3_0.out).mono ?_
        rintro e Y28 ⟨rfl, b28⟩
        have Kx3_29 := Lib.hid (blk_kept Kx3_27.out b28)
        have Rq3_29 := Lib.hid (Rq3_27.out.below b28 rfl)
        have Rg3_29 := Lib.hid (Rg3_27.out.below b28 rfl)
        have Rh3_29 := Lib.hid (Rh3_0.out.below b28 rfl)
        have T_29 := Lib.hid (T_27.out.trans (b28.mono T_27.out.size))
        clear b28 Kx3_27 Rq3_27 Rg3_27 Rh3_0 T_27
        clear Kx3_29 Rq3_29 Rg3_29 Rh3_29
        have HCode30 := Lib.hid (HC.out.below T_29.out)
        go_wp2_with fail
        refine (DrawDownTensions_any a len cap _ HCode30.out).mono ?_
        rintro e X30 ⟨v4, l4, x4, rfl, hr4, hl4, hwf4, b30, hbl4⟩
        clear HCode30 hwf4 hbl4
        have T_31 := Lib.hid (T_29.out.trans (b30.mono T_29.out.size))
        clear b30 T_29
        have hn4 : l4.length ≤ 1048576 := by omega
        obtain ⟨va4, oa4, ca4, hv, hla4, hm4, hsu⟩ := hr4.sup (by omega)
        subst hv
        have Rq4_0 := Lib.hid hr4
        clear hr4 hsu
        have Rq4_32 := Lib.hid (Rq4_0.out.below ((Below.refl X30.heap.size X30).alloc (Nat.le_refl _) (.cells #[.int .i64 x4.w, .int .i64 x4.c, .int .i64 x4.r] 44)) rfl)
        have T_32 := Lib.hid (T_31.out.alloc T_31.out.size (.cells #[.int .i64 x4.w, .int .i64 x4.c, .int .i64 x4.r] 44))
        have Kx4_32 := Lib.hid (blk_new3 X30 (.int .i64 x4.w) (.int .i64 x4.c) (.int .i64 x4.r) 44)
        clear Rq4_0 T_31
        obtain ⟨kx40, kx41, kx42⟩ := blk_cell3 Kx4_32.out
        go_wp2_with fail
        clear kx40 kx41 kx42
        generalize hW33 : X30.alloc (.cells #[.int .i64 x4.w, .int .i64 x4.c, .int .i64 x4.r] 44) = Z33 at *
        clear hW33
        refine (implDownTensions_c (.slice (some ⟨va4, oa4, none⟩) l4.length ca4) l4 x4 _ Rq4_32.out hn4).mono ?_
        rintro e Y34 ⟨vg4, rfl, og4, b34⟩
        have Kx4_35 := Lib.hid (blk_kept Kx4_32.out b34)
        have Rq4_35 := Lib.hid (Rq4_32.out.below b34 rfl)
        have T_35 := Lib.hid (T_32.out.trans (b34.mono T_32.out.size))
        clear b34 Kx4_32 Rq4_32 T_32
        obtain ⟨ag4, cg4, rfl⟩ := (Rs.of_own og4).shape
        have Rg4_0 := Lib.hid (Rd.of_own og4)
        clear og4
        obtain ⟨kx40, kx41, kx42⟩ := blk_cell3 Kx4_35.out
        go_wp2_with fail
        clear kx40 kx41 kx42
        refine (specDownTensions_c (.slice (some ⟨va4, oa4, none⟩) l4.length ca4) l4 x4 _ Rq4_35.out hn4).mono ?_
        rintro e Y36 ⟨vh4, rfl, oh4, b36⟩
        have Kx4_37 := Lib.hid (blk_kept Kx4_35.out b36)
        have Rq4_37 := Lib.hid (Rq4_35.out.below b36 rfl)
        have Rg4_37 := Lib.hid (Rg4_0.out.below b36 rfl)
        have T_37 := Lib.hid (T_35.out.trans (b36.mono T_35.out.size))
        clear b36 Kx4_35 Rq4_35 Rg4_0 T_35
        obtain ⟨ah4, ch4, rfl⟩ := (Rs.of_own oh4).shape
        have Rh4_0 := Lib.hid (Rd.of_own oh4)
        clear oh4
        generalize tenL l4 x4 (-x4.r) = t4 at *
        generalize tenOk l4 x4 (-x4.r) = k4 at *
        obtain ⟨kx40, kx41, kx42⟩ := blk_cell3 Kx4_37.out
        go_wp2_with fail
        clear kx40 kx41 kx42
        refine (vIntsT_c (.slice ag4 t4.length cg4) (.slice ah4 t4.length ch4) t4 _ Rg4_37.out Rh4_0.out).mono ?_
        rintro e Y38 ⟨rfl, b38⟩
        have Kx4_39 := Lib.hid (blk_kept Kx4_37.out b38)
        have Rq4_39 := Lib.hid (Rq4_37.out.below b38 rfl)
        have Rg4_39 := Lib.hid (Rg4_37.out.below b38 rfl)
        have Rh4_39 := Lib.hid (Rh4_0.out.below b38 rfl)
        have T_39 := Lib.hid (T_37.out.trans (b38.mono T_37.out.size))
        clear b38 Kx4_37 Rq4_37 Rg4_37 Rh4_0 T_37
        go_wp2
        go_ret
        exact ⟨rfl, T_39.out⟩
end Go.Proofs.Ytmmjbdffpgohdaa
