/- The law FnCircles's walk. Condition: sizes. -/
import Derived.Test.YtmmjbdffpgohdaaCirLaw2
import Derived.Test.YtmmjbdffpgohdaaDrawCirs2
import Derived.Test.YtmmjbdffpgohdaaCirRS
import Derived.Test.YtmmjbdffpgohdaaCirAI
import Derived.Test.YtmmjbdffpgohdaaCirAS
import Derived.WalkArith
import Derived.Deep.CutRange
import Derived.Deep.CutBlock
import Derived.Deep.DeepCutAuto
namespace Go.Proofs.Ytmmjbdffpgohdaa
open Go.RowKit
set_option linter.unusedVariables false
theorem named9 {a w' : World} {B : Nat} (h : Hid (Below B a w')) : ∃ W : World, W = w' := ⟨_, rfl⟩
theorem vCircleT_c (L S : Int) (va vb : Value) (l : List Int) (w : World) (ha : Rd w va (intVs l)) (hb : Rd w vb (intVs l)) (hl : l.length ≤ 1048576) :
    Calls Try.prog 40 #[.agg #[.int .i64 L, .int .i64 S, va], .agg #[.int .i64 L, .int .i64 S, vb]] w fun e w' => e = .returned (.bool true) ∧ Below w.heap.size w w' := by
  have h := vCircle_c L S va vb l l w ha hb hl hl
  simpa using h
theorem vIntsT_c (va vb : Value) (l : List Int) (w : World) (ha : Rd w va (intVs l)) (hb : Rd w vb (intVs l)) (hl : l.length ≤ 1048576) :
    Calls Try.prog 34 #[va, vb] w fun e w' => e = .returned (.bool true) ∧ Below w.heap.size w w' := by
  have h := vIntsG_c va vb l l w ha hb hl hl
  simpa using h
set_option maxRecDepth 100000 in
set_option maxHeartbeats 4000000 in
theorem FnCircles_walk (a : Option Addr) (len cap : Nat) (w : World) (h : ByteRow w a len) :
    Calls Try.prog 5 #[.slice a len cap] w fun e w' => e = .returned (.bool true) ∧ Below w.heap.size w w' := by
  have hm := h.1
  have HC := Lib.hid h
  clear h
  by_cases hbig : 65536 < len
  · go_enter Try.func5, Try.ntmps5
    go_wp2_with fail
    refine (vBig_yes a len cap _ hbig hm).mono ?_
    rintro e w' ⟨rfl, rfl⟩
    go_wp2_with fail
    go_ret
    exact ⟨rfl, Below.refl _ _⟩
  · go_enter Try.func5, Try.ntmps5
    go_wp2_with fail
    refine (vBig_no a len cap _ (by omega)).mono ?_
    rintro e w' ⟨rfl, rfl⟩
    have T0 := Lib.hid (Below.refl w.heap.size w)
    have HCode1 := Lib.hid (HC.out.below T0.out)
    go_wp2_with fail
    refine (DrawAddCabin_any a len cap _ HCode1.out).mono ?_
    rintro e X1 ⟨Lc, Sc, vc, lc, gp, rfl, hL1, hS1, hl1, o1, hgp, b1⟩
    clear HCode1
    have T_2 := Lib.hid (T0.out.trans (b1.mono T0.out.size))
    clear b1 T0
    have hn_lc : lc.length ≤ 1048576 := by omega
    have hn9_lc : lc.length ≤ 9 := hl1
    obtain ⟨arc, crc, rfl⟩ := (Rs.of_own o1).shape
    have Rrc_0 := Lib.hid (Rd.of_own o1)
    clear o1
    have Rrc_3 := Lib.hid (Rrc_0.out.below ((Below.refl X1.heap.size X1).alloc (Nat.le_refl _) (.cells #[.int .i64 Lc, .int .i64 Sc, .slice arc lc.length crc] 55)) rfl)
    have T_3 := Lib.hid (T_2.out.alloc T_2.out.size (.cells #[.int .i64 Lc, .int .i64 Sc, .slice arc lc.length crc] 55))
    have Kc_3 := Lib.hid (blk_new3 X1 (.int .i64 Lc) (.int .i64 Sc) (.slice arc lc.length crc) 55)
    clear Rrc_0 T_2
    have HWg := Lib.hid (WalkArith.wf_i64 (n := gp) (by omega))
    obtain ⟨kc0, kc1, kc2⟩ := blk_cell3 Kc_3.out
    go_wp2_with fail
    clear kc0 kc1 kc2
    generalize hW4 : X1.alloc (.cells #[.int .i64 Lc, .int .i64 Sc, .slice arc lc.length crc] 55) = Z4 at *
    clear hW4
    refine (implAddCabin_c Lc Sc (.slice arc lc.length crc) lc gp _ Rrc_3.out hn_lc HWg.out).mono ?_
    rintro e Y5 ⟨vo, rfl, oo, b5⟩
    have Kc_6 := Lib.hid (blk_kept Kc_3.out b5)
    have Rrc_6 := Lib.hid (Rrc_3.out.below b5 rfl)
    have T_6 := Lib.hid (T_3.out.trans (b5.mono T_3.out.size))
    clear b5 Kc_3 Rrc_3 T_3
    have ho12 := acR_len12 Lc Sc lc gp
    obtain ⟨aro, cro, rfl⟩ := (Rs.of_own oo).shape
    have Rro_0 := Lib.hid (Rd.of_own oo)
    clear oo
    have Kc_7 := Lib.hid (blk_stay (o' := .cells #[.int .i64 (acL Lc Sc lc gp), .int .i64 (acS Lc Sc lc gp), .slice aro ((acR Lc Sc lc gp)).length cro] 55) Kc_6.out)
    have Rrc_7 := Lib.hid (Rrc_6.out.below ((Below.refl Y5.heap.size Y5).alloc (Nat.le_refl _) (.cells #[.int .i64 (acL Lc Sc lc gp), .int .i64 (acS Lc Sc lc gp), .slice aro ((acR Lc Sc lc gp)).length cro] 55)) rfl)
    have Rro_7 := Lib.hid (Rro_0.out.below ((Below.refl Y5.heap.size Y5).alloc (Nat.le_refl _) (.cells #[.int .i64 (acL Lc Sc lc gp), .int .i64 (acS Lc Sc lc gp), .slice aro ((acR Lc Sc lc gp)).length cro] 55)) rfl)
    have T_7 := Lib.hid (T_6.out.alloc T_6.out.size (.cells #[.int .i64 (acL Lc Sc lc gp), .int .i64 (acS Lc Sc lc gp), .slice aro ((acR Lc Sc lc gp)).length cro] 55))
    have Ko_7 := Lib.hid (blk_new3 Y5 (.int .i64 (acL Lc Sc lc gp)) (.int .i64 (acS Lc Sc lc gp)) (.slice aro ((acR Lc Sc lc gp)).length cro) 55)
    clear Kc_6 Rrc_6 Rro_0 T_6
    obtain ⟨kc0, kc1, kc2⟩ := blk_cell3 Kc_7.out
    obtain ⟨ko0, ko1, ko2⟩ := blk_cell3 Ko_7.out
    go_wp2_with fail
    clear kc0 kc1 kc2 ko0 ko1 ko2
    generalize hW8 : Y5.alloc (.cells #[.int .i64 (acL Lc Sc lc gp), .int .i64 (acS Lc Sc lc gp), .slice aro ((acR Lc Sc lc gp)).length cro] 55) = Z8 at *
    clear hW8
    refine (specAddCabin_c Lc Sc (.slice arc lc.length crc) lc gp _ Rrc_7.out hn_lc HWg.out).mono ?_
    rintro e Y9 ⟨vw, rfl, ow, b9⟩
    have Kc_10 := Lib.hid (blk_kept Kc_7.out b9)
    have Ko_10 := Lib.hid (blk_kept Ko_7.out b9)
    have Rrc_10 := Lib.hid (Rrc_7.out.below b9 rfl)
    have Rro_10 := Lib.hid (Rro_7.out.below b9 rfl)
    have T_10 := Lib.hid (T_7.out.trans (b9.mono T_7.out.size))
    clear b9 Kc_7 Ko_7 Rrc_7 Rro_7 T_7
    obtain ⟨arw, crw, rfl⟩ := (Rs.of_own ow).shape
    have Rrw_0 := Lib.hid (Rd.of_own ow)
    clear ow
    have Kc_11 := Lib.hid (blk_stay (o' := .cells #[.int .i64 (acL Lc Sc lc gp), .int .i64 (acS Lc Sc lc gp), .slice arw ((acR Lc Sc lc gp)).length crw] 55) Kc_10.out)
    have Ko_11 := Lib.hid (blk_stay (o' := .cells #[.int .i64 (acL Lc Sc lc gp), .int .i64 (acS Lc Sc lc gp), .slice arw ((acR Lc Sc lc gp)).length crw] 55) Ko_10.out)
    have Rrc_11 := Lib.hid (Rrc_10.out.below ((Below.refl Y9.heap.size Y9).alloc (Nat.le_refl _) (.cells #[.int .i64 (acL Lc Sc lc gp), .int .i64 (acS Lc Sc lc gp), .slice arw ((acR Lc Sc lc gp)).length crw] 55)) rfl)
    have Rro_11 := Lib.hid (Rro_10.out.below ((Below.refl Y9.heap.size Y9).alloc (Nat.le_refl _) (.cells #[.int .i64 (acL Lc Sc lc gp), .int .i64 (acS Lc Sc lc gp), .slice arw ((acR Lc Sc lc gp)).length crw] 55)) rfl)
    have Rrw_11 := Lib.hid (Rrw_0.out.below ((Below.refl Y9.heap.size Y9).alloc (Nat.le_refl _) (.cells #[.int .i64 (acL Lc Sc lc gp), .int .i64 (acS Lc Sc lc gp), .slice arw ((acR Lc Sc lc gp)).length crw] 55)) rfl)
    have T_11 := Lib.hid (T_10.out.alloc T_10.out.size (.cells #[.int .i64 (acL Lc Sc lc gp), .int .i64 (acS Lc Sc lc gp), .slice arw ((acR Lc Sc lc gp)).length crw] 55))
    have Kw_11 := Lib.hid (blk_new3 Y9 (.int .i64 (acL Lc Sc lc gp)) (.int .i64 (acS Lc Sc lc gp)) (.slice arw ((acR Lc Sc lc gp)).length crw) 55)
    clear Kc_10 Ko_10 Rrc_10 Rro_10 Rrw_0 T_10
    have HK := Lib.hid (fun h => ac_keeps (L := Lc) (S := Sc) (l := lc) (g := gp) h)
    obtain ⟨kc0, kc1, kc2⟩ := blk_cell3 Kc_11.out
    obtain ⟨ko0, ko1, ko2⟩ := blk_cell3 Ko_11.out
    obtain ⟨kw0, kw1, kw2⟩ := blk_cell3 Kw_11.out
    go_wp2_with fail
    clear kc0 kc1 kc2 ko0 ko1 ko2 kw0 kw1 kw2
    generalize hW12 : Y9.alloc (.cells #[.int .i64 (acL Lc Sc lc gp), .int .i64 (acS Lc Sc lc gp), .slice arw ((acR Lc Sc lc gp)).length crw] 55) = Z12 at *
    clear hW12
    generalize acL Lc Sc lc gp = Lo at *
    generalize acS Lc Sc lc gp = So at *
    generalize acR Lc Sc lc gp = lo at *
    generalize acOk Lc Sc lc gp = ok at *
    obtain ⟨kc0, kc1, kc2⟩ := blk_cell3 Kc_11.out
    obtain ⟨ko0, ko1, ko2⟩ := blk_cell3 Ko_11.out
    obtain ⟨kw0, kw1, kw2⟩ := blk_cell3 Kw_11.out
    have qc0 : ∀ x : Aft Z12, x.w.cell? ⟨X1.heap.size, 0, none⟩ = some (.int .i64 Lc) := fun x => x.cell kc0
    have qc1 : ∀ x : Aft Z12, x.w.cell? ⟨X1.heap.size, 1, none⟩ = some (.int .i64 Sc) := fun x => x.cell kc1
    have qc2 : ∀ x : Aft Z12, x.w.cell? ⟨X1.heap.size, 2, none⟩ = some ((.slice arc lc.length crc)) := fun x => x.cell kc2
    have qo0 : ∀ x : Aft Z12, x.w.cell? ⟨Y5.heap.size, 0, none⟩ = some (.int .i64 Lo) := fun x => x.cell ko0
    have qo1 : ∀ x : Aft Z12, x.w.cell? ⟨Y5.heap.size, 1, none⟩ = some (.int .i64 So) := fun x => x.cell ko1
    have qo2 : ∀ x : Aft Z12, x.w.cell? ⟨Y5.heap.size, 2, none⟩ = some ((.slice aro lo.length cro)) := fun x => x.cell ko2
    have qw0 : ∀ x : Aft Z12, x.w.cell? ⟨Y9.heap.size, 0, none⟩ = some (.int .i64 Lo) := fun x => x.cell kw0
    have qw1 : ∀ x : Aft Z12, x.w.cell? ⟨Y9.heap.size, 1, none⟩ = some (.int .i64 So) := fun x => x.cell kw1
    have qw2 : ∀ x : Aft Z12, x.w.cell? ⟨Y9.heap.size, 2, none⟩ = some ((.slice arw lo.length crw)) := fun x => x.cell kw2
    clear kc0 kc1 kc2 ko0 ko1 ko2 kw0 kw1 kw2
    have hn_lo : lo.length ≤ 1048576 := by omega
    have HV := Lib.hid (fun x : Aft Z12 => vCircleT_c Lo So (.slice aro lo.length cro) (.slice arw lo.length crw) lo x.w (Rro_11.out.below x.below rfl) (Rrw_11.out.below x.below rfl) hn_lo)
    have HI := Lib.hid (fun x : Aft Z12 => implIsCircle_c Lc Sc (.slice arc lc.length crc) lc x.w (Rrc_11.out.below x.below rfl) hn_lc)
    have HJ := Lib.hid (fun x : Aft Z12 => specIsCircle_c Lc Sc (.slice arc lc.length crc) lc x.w (Rrc_11.out.below x.below rfl) hn_lc)
    have HGK := Lib.hid (fun h => gp_keeps (L := Lc) (S := Sc) (l := lc) h)
    have HG1 := Lib.hid (fun W h => implGapsOf_c Lc Sc (.slice arc lc.length crc) lc W h hn_lc)
    have HG2 := Lib.hid (fun W h => specGapsOf_c Lc Sc (.slice arc lc.length crc) lc W h hn_lc)
    have hg12 := gpR_len12 Lc Sc lc
    generalize cirV Lc Sc lc = cv at *
    generalize gpR Lc Sc lc = gl at *
    have hn_gl : gl.length ≤ 1048576 := by omega
    refine wp_region_aft (w0 := Z12) (by kernel_rfl) (by kernel_rfl) (Below.refl _ _) ?_
    repeat (go_big_quiet_step (first | (go_at_call 40; exact aft_of (HV.out _)) | (go_at_call 41; exact aft_of (HI.out _)) | (go_at_call 42; exact aft_of (HJ.out _)) | fail))
    refine wpQuiet_nil ?_
    rintro _ ⟨⟨Y60, b60⟩, rfl⟩
    try simp only []
    clear qc0 qc1 qc2 qo0 qo1 qo2 qw0 qw1 qw2 HV HI HJ
    have Kc_13 := Lib.hid (blk_kept Kc_11.out b60)
    have Ko_13 := Lib.hid (blk_kept Ko_11.out b60)
    have Kw_13 := Lib.hid (blk_kept Kw_11.out b60)
    have Rrc_13 := Lib.hid (Rrc_11.out.below b60 rfl)
    have Rro_13 := Lib.hid (Rro_11.out.below b60 rfl)
    have Rrw_13 := Lib.hid (Rrw_11.out.below b60 rfl)
    have T_13 := Lib.hid (T_11.out.trans (b60.mono T_11.out.size))
    clear b60 Kc_11 Ko_11 Kw_11 Rrc_11 Rro_11 Rrw_11 T_11
    clear Kw_13 Rrw_13
    obtain ⟨kc0, kc1, kc2⟩ := blk_cell3 Kc_13.out
    obtain ⟨ko0, ko1, ko2⟩ := blk_cell3 Ko_13.out
    go_wp2_with fail
    clear kc0 kc1 kc2 ko0 ko1 ko2
    refine (HG1.out _ Rrc_13.out).mono ?_
    rintro e Y14 ⟨vg, rfl, og, b14⟩
    have Kc_15 := Lib.hid (blk_kept Kc_13.out b14)
    have Ko_15 := Lib.hid (blk_kept Ko_13.out b14)
    have Rrc_15 := Lib.hid (Rrc_13.out.below b14 rfl)
    have Rro_15 := Lib.hid (Rro_13.out.below b14 rfl)
    have T_15 := Lib.hid (T_13.out.trans (b14.mono T_13.out.size))
    clear b14 Kc_13 Ko_13 Rrc_13 Rro_13 T_13
    obtain ⟨arg, crg, rfl⟩ := (Rs.of_own og).shape
    have Rrg_0 := Lib.hid (Rd.of_own og)
    clear og
    clear HG1
    obtain ⟨kc0, kc1, kc2⟩ := blk_cell3 Kc_15.out
    obtain ⟨ko0, ko1, ko2⟩ := blk_cell3 Ko_15.out
    go_wp2_with fail
    clear kc0 kc1 kc2 ko0 ko1 ko2
    refine (HG2.out _ Rrc_15.out).mono ?_
    rintro e Y16 ⟨vh, rfl, oh, b16⟩
    have Kc_17 := Lib.hid (blk_kept Kc_15.out b16)
    have Ko_17 := Lib.hid (blk_kept Ko_15.out b16)
    have Rrc_17 := Lib.hid (Rrc_15.out.below b16 rfl)
    have Rro_17 := Lib.hid (Rro_15.out.below b16 rfl)
    have Rrg_17 := Lib.hid (Rrg_0.out.below b16 rfl)
    have T_17 := Lib.hid (T_15.out.trans (b16.mono T_15.out.size))
    clear b16 Kc_15 Ko_15 Rrc_15 Rro_15 Rrg_0 T_15
    obtain ⟨arh, crh, rfl⟩ := (Rs.of_own oh).shape
    have Rrh_0 := Lib.hid (Rd.of_own oh)
    clear oh
    clear HG2
    obtain ⟨kc0, kc1, kc2⟩ := blk_cell3 Kc_17.out
    obtain ⟨ko0, ko1, ko2⟩ := blk_cell3 Ko_17.out
    go_upto_region 10 with fail
    clear kc0 kc1 kc2 ko0 ko1 ko2
    have HVI := Lib.hid (fun x : Aft Y16 => vIntsT_c (.slice arg gl.length crg) (.slice arh gl.length crh) gl x.w (Rrg_17.out.below x.below rfl) (Rrh_0.out.below x.below rfl) hn_gl)
    have HCC : Hid (Y16.heap[X1.heap.size]? = some (.cells #[.int .i64 Lc, .int .i64 Sc, .slice arc lc.length crc] 55 (0, 0))) := Kc_17
    have HRG := Rrg_17
    go_cut [108] from 84 to 107 (fun t wx => t = .bool false ∧ Hid (Below Y16.heap.size Y16 wx))
    case first =>
      as_aux_lemma =>
      obtain ⟨kc0, kc1, kc2⟩ := blk_cell3 HCC.out
      have qc0 : ∀ x : Aft Y16, x.w.cell? ⟨X1.heap.size, 0, none⟩ = some (.int .i64 Lc) := fun x => x.cell kc0
      have qc2 : ∀ x : Aft Y16, x.w.cell? ⟨X1.heap.size, 2, none⟩ = some (.slice arc lc.length crc) := fun x => x.cell kc2
      clear kc0 kc1 kc2
      cases cv with
      | false =>
        refine wp_region_aft (w0 := Y16) (by kernel_rfl) (by kernel_rfl) (Below.refl _ _) ?_
        repeat (go_big_quiet_step (first | (go_at_call 34; exact aft_of (HVI.out _)) | fail))
        refine wpQuiet_nil ?_
        rintro _ ⟨⟨Y70, b70⟩, rfl⟩
        try simp only []
        go_wp2
        go_meet
        case rel => exact ⟨rfl, Lib.hid b70⟩
      | true =>
        obtain ⟨hsum, hgb, hgl, _⟩ := HGK.out rfl
        by_cases h0 : 0 < lc.length
        · have HVS := Lib.hid (fun x : Aft Y16 => vSum_c (.slice arg gl.length crg) gl x.w (HRG.out.below x.below rfl) (by omega) hgb)
          rw [hsum h0] at HVS
          have t1 : decide ((0 : Int) < (lc.length : Int)) = true := by simp; omega
          have t2 : decide (0 < lc.length) = true := decide_eq_true h0
          have t3 : (Lc != Lc) = false := by simp
          clear hsum hgb hgl HGK
          refine wp_region_aft (w0 := Y16) (by kernel_rfl) (by kernel_rfl) (Below.refl _ _) ?_
          repeat (go_big_quiet_step (first | (go_at_call 34; exact aft_of (HVI.out _)) | (go_at_call 45; exact aft_of (HVS.out _)) | fail))
          refine wpQuiet_nil ?_
          rintro _ ⟨⟨Y70, b70⟩, rfl⟩
          try simp only []
          go_wp2
          go_meet
          case rel => exact ⟨rfl, Lib.hid b70⟩
        · have t1 : decide ((0 : Int) < (lc.length : Int)) = false := decide_eq_false (by omega)
          have t2 : decide (0 < lc.length) = false := decide_eq_false h0
          clear hsum hgb hgl HGK h0
          refine wp_region_aft (w0 := Y16) (by kernel_rfl) (by kernel_rfl) (Below.refl _ _) ?_
          repeat (go_big_quiet_step (first | (go_at_call 34; exact aft_of (HVI.out _)) | fail))
          refine wpQuiet_nil ?_
          rintro _ ⟨⟨Y70, b70⟩, rfl⟩
          try simp only []
          go_wp2
          go_meet
          case rel => exact ⟨rfl, Lib.hid b70⟩
    case rest =>
      obtain ⟨rfl, hcut⟩ := hcut
      obtain ⟨wx, hwx⟩ := named9 hcut
      subst hwx
      have b71 := hcut.out
      clear hcut HVI HCC HRG HGK
      have Kc_18 := Lib.hid (blk_kept Kc_17.out b71)
      have Ko_18 := Lib.hid (blk_kept Ko_17.out b71)
      have Rrc_18 := Lib.hid (Rrc_17.out.below b71 rfl)
      have Rro_18 := Lib.hid (Rro_17.out.below b71 rfl)
      have Rrg_18 := Lib.hid (Rrg_17.out.below b71 rfl)
      have Rrh_18 := Lib.hid (Rrh_0.out.below b71 rfl)
      have T_18 := Lib.hid (T_17.out.trans (b71.mono T_17.out.size))
      clear b71 Kc_17 Ko_17 Rrc_17 Rro_17 Rrg_17 Rrh_0 T_17
      clear Rrg_18 Rrh_18
      go_upto_if 109 with fail
      go_cut [] from 13 (fun wy => Hid (Below wx.heap.size wx wy))
      case first =>
        as_aux_lemma =>
        cases ok with
        | false =>
          go_wp2
          go_meet
          case rel => exact Lib.hid (Below.refl _ _)
        | true =>
          have hY := Lib.hid (Below.refl wx.heap.size wx)
          clear T_18
          obtain ⟨eL, eS, hle, h12, hsg, hge, hrm, hex⟩ := HK.out rfl
          have eL2 := eL.symm
          have eS2 := eS.symm
          clear eL eS HK
          subst eL2 eS2
          have HLE := Lib.hid hle
          have HRM := Lib.hid hrm
          have HEX := Lib.hid hex
          clear hle hrm hex
          have HA := Lib.hid (fun W h => implSmallestGap_c Lc Sc (.slice aro lo.length cro) lo W h hn_lo)
          rw [hsg] at HA
          clear hsg
          generalize sgV Lc Sc lo = lg at *
          obtain ⟨kc0, kc1, kc2⟩ := blk_cell3 Kc_18.out
          obtain ⟨ko0, ko1, ko2⟩ := blk_cell3 Ko_18.out
          go_wp2_with fail
          clear kc0 kc1 kc2 ko0 ko1 ko2
          refine (HA.out _ Rro_18.out).mono ?_
          rintro e Y19 ⟨rfl, b19⟩
          have Kc_20 := Lib.hid (blk_kept Kc_18.out b19)
          have Ko_20 := Lib.hid (blk_kept Ko_18.out b19)
          have Rrc_20 := Lib.hid (Rrc_18.out.below b19 rfl)
          have Rro_20 := Lib.hid (Rro_18.out.below b19 rfl)
          have T_20 := Lib.hid (hY.out.trans (b19.mono hY.out.size))
          clear b19 Kc_18 Ko_18 Rrc_18 Rro_18 hY
          clear HA
          obtain ⟨kc0, kc1, kc2⟩ := blk_cell3 Kc_20.out
          obtain ⟨ko0, ko1, ko2⟩ := blk_cell3 Ko_20.out
          go_wp2
          clear kc0 kc1 kc2 ko0 ko1 ko2
          go_loopw [15, 16] (fun f i wr => ∃ (kk : Nat) (F : Bool), kk ≤ lc.length + 1 ∧ i = .int .i64 (kk : Int) ∧ f = .bool F ∧ Hid (F = false → ∀ j, j < kk → rmv lo j ≠ lc) ∧ Hid (Below Y19.heap.size Y19 wr)) (fun _ i _ => lc.length + 1 - (intOf i).toNat)
          case atStart => exact ⟨0, false, by omega, rfl, rfl, Lib.hid (fun _ j h => by omega), Lib.hid (Below.refl _ _)⟩
          case round =>
            obtain ⟨kk, F, hk, rfl, rfl, hF, hbl⟩ := hrel
            have bq := hbl.out
            have Kc_21 := Lib.hid (blk_kept Kc_20.out bq)
            have Ko_21 := Lib.hid (blk_kept Ko_20.out bq)
            have Rrc_21 := Lib.hid (Rrc_20.out.below bq rfl)
            have Rro_21 := Lib.hid (Rro_20.out.below bq rfl)
            have T_21 := Lib.hid (T_20.out.trans (bq.mono T_20.out.size))
            clear bq Kc_20 Ko_20 Rrc_20 Rro_20 T_20
            by_cases hlt : kk < lc.length + 1
            · skip
              have t1 : (kk : Int) < (lo.length : Int) := by have := HLE.out; omega
              have t2 : decide ((kk : Int) < (lo.length : Int)) = true := decide_eq_true t1
              have t3 : kk < lo.length := by omega
              obtain ⟨r1, r2, r3, r4⟩ := HRM.out kk hlt
              have HA2 := Lib.hid (fun W h => implRemoveCabin_c Lc Sc (.slice aro lo.length cro) lo (kk : Int) W h hn_lo (WalkArith.wf_i64 (n := (kk : Int)) (by omega)))
              rw [r1, r2, r3, r4] at HA2
              clear r1 r2 r3 r4 HRM HEX T_21
              have hrl : (rmv lo kk).length ≤ 1048576 := by unfold rmv; rw [List.length_append, List.length_take, List.length_drop]; omega
              have HFN : Hid (F = false → ¬ rmv lo kk = lc → ∀ j, j < kk + 1 → rmv lo j ≠ lc) := Lib.hid (fun hf hne j hj => by
                by_cases e : j = kk
                · subst e; exact hne
                · exact hF.out hf j (by omega))
              generalize rmv lo kk = rm at *
              obtain ⟨kc0, kc1, kc2⟩ := blk_cell3 Kc_21.out
              obtain ⟨ko0, ko1, ko2⟩ := blk_cell3 Ko_21.out
              go_wp2_with fail
              clear kc0 kc1 kc2 ko0 ko1 ko2
              refine (HA2.out _ Rro_21.out).mono ?_
              rintro e Y22 ⟨vb, rfl, ob, b22⟩
              have Kc_23 := Lib.hid (blk_kept Kc_21.out b22)
              have Ko_23 := Lib.hid (blk_kept Ko_21.out b22)
              have Rrc_23 := Lib.hid (Rrc_21.out.below b22 rfl)
              have Rro_23 := Lib.hid (Rro_21.out.below b22 rfl)
              have T_23 := Lib.hid (hbl.out.trans (b22.mono hbl.out.size))
              clear b22 Kc_21 Ko_21 Rrc_21 Rro_21 hbl
              clear HA2
              obtain ⟨arb, crb, rfl⟩ := (Rs.of_own ob).shape
              have Rrb_0 := Lib.hid (Rd.of_own ob)
              clear ob
              have Kc_24 := Lib.hid (blk_stay (o' := .cells #[.int .i64 Lc, .int .i64 Sc, .slice arb rm.length crb] 55) Kc_23.out)
              have Ko_24 := Lib.hid (blk_stay (o' := .cells #[.int .i64 Lc, .int .i64 Sc, .slice arb rm.length crb] 55) Ko_23.out)
              have Rrc_24 := Lib.hid (Rrc_23.out.below ((Below.refl Y22.heap.size Y22).alloc (Nat.le_refl _) (.cells #[.int .i64 Lc, .int .i64 Sc, .slice arb rm.length crb] 55)) rfl)
              have Rro_24 := Lib.hid (Rro_23.out.below ((Below.refl Y22.heap.size Y22).alloc (Nat.le_refl _) (.cells #[.int .i64 Lc, .int .i64 Sc, .slice arb rm.length crb] 55)) rfl)
              have Rrb_24 := Lib.hid (Rrb_0.out.below ((Below.refl Y22.heap.size Y22).alloc (Nat.le_refl _) (.cells #[.int .i64 Lc, .int .i64 Sc, .slice arb rm.length crb] 55)) rfl)
              have T_24 := Lib.hid (T_23.out.alloc T_23.out.size (.cells #[.int .i64 Lc, .int .i64 Sc, .slice arb rm.length crb] 55))
              have Kb_24 := Lib.hid (blk_new3 Y22 (.int .i64 Lc) (.int .i64 Sc) (.slice arb rm.length crb) 55)
              clear Kc_23 Ko_23 Rrc_23 Rro_23 Rrb_0 T_23
              cases F with
              | true =>
                obtain ⟨kc0, kc1, kc2⟩ := blk_cell3 Kc_24.out
                obtain ⟨ko0, ko1, ko2⟩ := blk_cell3 Ko_24.out
                obtain ⟨kb0, kb1, kb2⟩ := blk_cell3 Kb_24.out
                go_wp2
                clear kc0 kc1 kc2 ko0 ko1 ko2 kb0 kb1 kb2
                generalize hW25 : Y22.alloc (.cells #[.int .i64 Lc, .int .i64 Sc, .slice arb rm.length crb] 55) = Z25 at *
                clear hW25
                go_roundw
                case rel => exact ⟨kk + 1, true, by omega, by go_num, (by first | rfl | trivial), Lib.hid (fun h => by cases h), T_24⟩
                case measure => simp [intOf]; omega
              | false =>
                obtain ⟨kc0, kc1, kc2⟩ := blk_cell3 Kc_24.out
                obtain ⟨ko0, ko1, ko2⟩ := blk_cell3 Ko_24.out
                obtain ⟨kb0, kb1, kb2⟩ := blk_cell3 Kb_24.out
                go_wp2_with fail
                clear kc0 kc1 kc2 ko0 ko1 ko2 kb0 kb1 kb2
                generalize hW25 : Y22.alloc (.cells #[.int .i64 Lc, .int .i64 Sc, .slice arb rm.length crb] 55) = Z25 at *
                clear hW25
                refine (vCircle_c Lc Sc (.slice arb rm.length crb) (.slice arc lc.length crc) rm lc _ Rrb_24.out Rrc_24.out hrl hn_lc).mono ?_
                rintro e Y26 ⟨rfl, b26⟩
                have Kc_27 := Lib.hid (blk_kept Kc_24.out b26)
                have Ko_27 := Lib.hid (blk_kept Ko_24.out b26)
                have Kb_27 := Lib.hid (blk_kept Kb_24.out b26)
                have Rrc_27 := Lib.hid (Rrc_24.out.below b26 rfl)
                have Rro_27 := Lib.hid (Rro_24.out.below b26 rfl)
                have Rrb_27 := Lib.hid (Rrb_24.out.below b26 rfl)
                have T_27 := Lib.hid (T_24.out.trans (b26.mono T_24.out.size))
                clear b26 Kc_24 Ko_24 Kb_24 Rrc_24 Rro_24 Rrb_24 T_24
                generalize hD : decide (rm = lc) = D at *
                have HD := Lib.hid hD
                clear hD
                obtain ⟨kc0, kc1, kc2⟩ := blk_cell3 Kc_27.out
                obtain ⟨ko0, ko1, ko2⟩ := blk_cell3 Ko_27.out
                obtain ⟨kb0, kb1, kb2⟩ := blk_cell3 Kb_27.out
                go_wp2
                clear kc0 kc1 kc2 ko0 ko1 ko2 kb0 kb1 kb2
                go_roundw
                case rel => exact ⟨kk + 1, D, by omega, by go_num, (by first | rfl | trivial), Lib.hid (fun h => HFN.out (by first | rfl | trivial) (of_decide_eq_false (HD.out.trans h))), T_27⟩
                case measure => simp [intOf]; omega
            · skip
              have hkk : kk = lc.length + 1 := by omega
              cases F with
              | false =>
                obtain ⟨j, hj, hjr⟩ := HEX.out
                exact absurd hjr (hF.out rfl j (by omega))
              | true =>
                have t1 : decide ((kk : Int) < (lo.length : Int)) = false := decide_eq_false (by have := HLE.out; omega)
                have t4 : decide (lg < gp) = false := decide_eq_false (by omega)
                have t5 : ((lo.length : Int) != (lc.length : Int) + 1) = false := by rw [bne_eq_false_iff_eq]; have := HLE.out; omega
                have t6 : ¬ (kk : Int) < (lo.length : Int) := by have := HLE.out; omega
                have q1 : IntKind.i64.wrap ((lc.length : Int) + 1) = (lc.length : Int) + 1 := IntWalk.i64_in _ (by omega)
                clear hkk
                obtain ⟨kc0, kc1, kc2⟩ := blk_cell3 Kc_21.out
                obtain ⟨ko0, ko1, ko2⟩ := blk_cell3 Ko_21.out
                go_wp2
                go_meet
                case rel => exact T_21
      case rest =>
        obtain ⟨wy, hwy⟩ := named9 hcut
        subst hwy
        have b72 := hcut.out
        clear hcut HK
        clear Kc_18 Ko_18 Rrc_18 Rro_18
        have T_19 := Lib.hid (T_18.out.trans (b72.mono T_18.out.size))
        clear b72 T_18
        have HCode20 := Lib.hid (HC.out.below T_19.out)
        go_wp2_with fail
        refine (DrawRemoveCabin_any a len cap _ HCode20.out).mono ?_
        rintro e X20 ⟨Lx, Sx, vx, lx, px, rfl, hL20, hS20, hl20, o20, hpx, b20⟩
        clear HCode20
        have T_21 := Lib.hid (T_19.out.trans (b20.mono T_19.out.size))
        clear b20 T_19
        have hn_lx : lx.length ≤ 1048576 := by omega
        obtain ⟨arx, crx, rfl⟩ := (Rs.of_own o20).shape
        have Rrx_0 := Lib.hid (Rd.of_own o20)
        clear o20
        have Rrx_22 := Lib.hid (Rrx_0.out.below ((Below.refl X20.heap.size X20).alloc (Nat.le_refl _) (.cells #[.int .i64 Lx, .int .i64 Sx, .slice arx lx.length crx] 55)) rfl)
        have T_22 := Lib.hid (T_21.out.alloc T_21.out.size (.cells #[.int .i64 Lx, .int .i64 Sx, .slice arx lx.length crx] 55))
        have Kx_22 := Lib.hid (blk_new3 X20 (.int .i64 Lx) (.int .i64 Sx) (.slice arx lx.length crx) 55)
        clear Rrx_0 T_21
        have HWp := Lib.hid (WalkArith.wf_i64 (n := px) (by omega))
        obtain ⟨kx0, kx1, kx2⟩ := blk_cell3 Kx_22.out
        go_wp2_with fail
        clear kx0 kx1 kx2
        generalize hW23 : X20.alloc (.cells #[.int .i64 Lx, .int .i64 Sx, .slice arx lx.length crx] 55) = Z23 at *
        clear hW23
        refine (implRemoveCabin_c Lx Sx (.slice arx lx.length crx) lx px _ Rrx_22.out hn_lx HWp.out).mono ?_
        rintro e Y24 ⟨vy, rfl, oy, b24⟩
        have Kx_25 := Lib.hid (blk_kept Kx_22.out b24)
        have Rrx_25 := Lib.hid (Rrx_22.out.below b24 rfl)
        have T_25 := Lib.hid (T_22.out.trans (b24.mono T_22.out.size))
        clear b24 Kx_22 Rrx_22 T_22
        have hyl := rcR_len Lx Sx lx px
        obtain ⟨ary, cry, rfl⟩ := (Rs.of_own oy).shape
        have Rry_0 := Lib.hid (Rd.of_own oy)
        clear oy
        have Kx_26 := Lib.hid (blk_stay (o' := .cells #[.int .i64 (rcL Lx Sx lx px), .int .i64 (rcS Lx Sx lx px), .slice ary ((rcR Lx Sx lx px)).length cry] 55) Kx_25.out)
        have Rrx_26 := Lib.hid (Rrx_25.out.below ((Below.refl Y24.heap.size Y24).alloc (Nat.le_refl _) (.cells #[.int .i64 (rcL Lx Sx lx px), .int .i64 (rcS Lx Sx lx px), .slice ary ((rcR Lx Sx lx px)).length cry] 55)) rfl)
        have Rry_26 := Lib.hid (Rry_0.out.below ((Below.refl Y24.heap.size Y24).alloc (Nat.le_refl _) (.cells #[.int .i64 (rcL Lx Sx lx px), .int .i64 (rcS Lx Sx lx px), .slice ary ((rcR Lx Sx lx px)).length cry] 55)) rfl)
        have T_26 := Lib.hid (T_25.out.alloc T_25.out.size (.cells #[.int .i64 (rcL Lx Sx lx px), .int .i64 (rcS Lx Sx lx px), .slice ary ((rcR Lx Sx lx px)).length cry] 55))
        have Ky_26 := Lib.hid (blk_new3 Y24 (.int .i64 (rcL Lx Sx lx px)) (.int .i64 (rcS Lx Sx lx px)) (.slice ary ((rcR Lx Sx lx px)).length cry) 55)
        clear Kx_25 Rrx_25 Rry_0 T_25
        obtain ⟨kx0, kx1, kx2⟩ := blk_cell3 Kx_26.out
        obtain ⟨ky0, ky1, ky2⟩ := blk_cell3 Ky_26.out
        go_wp2_with fail
        clear kx0 kx1 kx2 ky0 ky1 ky2
        generalize hW27 : Y24.alloc (.cells #[.int .i64 (rcL Lx Sx lx px), .int .i64 (rcS Lx Sx lx px), .slice ary ((rcR Lx Sx lx px)).length cry] 55) = Z27 at *
        clear hW27
        refine (specRemoveCabin_c Lx Sx (.slice arx lx.length crx) lx px _ Rrx_26.out hn_lx HWp.out).mono ?_
        rintro e Y28 ⟨vv, rfl, ov, b28⟩
        have Kx_29 := Lib.hid (blk_kept Kx_26.out b28)
        have Ky_29 := Lib.hid (blk_kept Ky_26.out b28)
        have Rrx_29 := Lib.hid (Rrx_26.out.below b28 rfl)
        have Rry_29 := Lib.hid (Rry_26.out.below b28 rfl)
        have T_29 := Lib.hid (T_26.out.trans (b28.mono T_26.out.size))
        clear b28 Kx_26 Ky_26 Rrx_26 Rry_26 T_26
        obtain ⟨arv, crv, rfl⟩ := (Rs.of_own ov).shape
        have Rrv_0 := Lib.hid (Rd.of_own ov)
        clear ov
        generalize rcL Lx Sx lx px = Ly at *
        generalize rcS Lx Sx lx px = Sy at *
        generalize rcR Lx Sx lx px = ly at *
        generalize rcOk Lx Sx lx px = fy at *
        have hn_ly : ly.length ≤ 1048576 := by omega
        have Kx_30 := Lib.hid (blk_stay (o' := .cells #[.int .i64 Ly, .int .i64 Sy, .slice arv ly.length crv] 55) Kx_29.out)
        have Ky_30 := Lib.hid (blk_stay (o' := .cells #[.int .i64 Ly, .int .i64 Sy, .slice arv ly.length crv] 55) Ky_29.out)
        have Rrx_30 := Lib.hid (Rrx_29.out.below ((Below.refl Y28.heap.size Y28).alloc (Nat.le_refl _) (.cells #[.int .i64 Ly, .int .i64 Sy, .slice arv ly.length crv] 55)) rfl)
        have Rry_30 := Lib.hid (Rry_29.out.below ((Below.refl Y28.heap.size Y28).alloc (Nat.le_refl _) (.cells #[.int .i64 Ly, .int .i64 Sy, .slice arv ly.length crv] 55)) rfl)
        have Rrv_30 := Lib.hid (Rrv_0.out.below ((Below.refl Y28.heap.size Y28).alloc (Nat.le_refl _) (.cells #[.int .i64 Ly, .int .i64 Sy, .slice arv ly.length crv] 55)) rfl)
        have T_30 := Lib.hid (T_29.out.alloc T_29.out.size (.cells #[.int .i64 Ly, .int .i64 Sy, .slice arv ly.length crv] 55))
        have Kv_30 := Lib.hid (blk_new3 Y28 (.int .i64 Ly) (.int .i64 Sy) (.slice arv ly.length crv) 55)
        clear Kx_29 Ky_29 Rrx_29 Rry_29 Rrv_0 T_29
        obtain ⟨kx0, kx1, kx2⟩ := blk_cell3 Kx_30.out
        obtain ⟨ky0, ky1, ky2⟩ := blk_cell3 Ky_30.out
        obtain ⟨kv0, kv1, kv2⟩ := blk_cell3 Kv_30.out
        go_wp2_with fail
        clear kx0 kx1 kx2 ky0 ky1 ky2 kv0 kv1 kv2
        generalize hW31 : Y28.alloc (.cells #[.int .i64 Ly, .int .i64 Sy, .slice arv ly.length crv] 55) = Z31 at *
        clear hW31
        refine (vCircleT_c Ly Sy (.slice ary ly.length cry) (.slice arv ly.length crv) ly _ Rry_30.out Rrv_30.out hn_ly).mono ?_
        rintro e Y32 ⟨rfl, b32⟩
        have Kx_33 := Lib.hid (blk_kept Kx_30.out b32)
        have Ky_33 := Lib.hid (blk_kept Ky_30.out b32)
        have Kv_33 := Lib.hid (blk_kept Kv_30.out b32)
        have Rrx_33 := Lib.hid (Rrx_30.out.below b32 rfl)
        have Rry_33 := Lib.hid (Rry_30.out.below b32 rfl)
        have Rrv_33 := Lib.hid (Rrv_30.out.below b32 rfl)
        have T_33 := Lib.hid (T_30.out.trans (b32.mono T_30.out.size))
        clear b32 Kx_30 Ky_30 Kv_30 Rrx_30 Rry_30 Rrv_30 T_30
        clear Kx_33 Ky_33 Kv_33 Rrx_33 Rry_33 Rrv_33
        have HCode34 := Lib.hid (HC.out.below T_33.out)
        go_wp2_with fail
        refine (DrawEvenStarts_any a len cap _ HCode34.out).mono ?_
        rintro e X34 ⟨x0, x1, x2, rfl, hx0, hx1, hx2, b34⟩
        clear HCode34
        have T_35 := Lib.hid (T_33.out.trans (b34.mono T_33.out.size))
        clear b34 T_33
        have HWx0 := Lib.hid (WalkArith.wf_i64 (n := x0) (by omega))
        have HWx1 := Lib.hid (WalkArith.wf_i64 (n := x1) (by omega))
        have HWx2 := Lib.hid (WalkArith.wf_i64 (n := x2) (by omega))
        go_wp2_with fail
        refine (implEvenStarts_c x0 x1 x2 _ HWx0.out HWx1.out HWx2.out).mono ?_
        rintro e Y36 ⟨ve, rfl, oe, b36⟩
        have T_37 := Lib.hid (T_35.out.trans (b36.mono T_35.out.size))
        clear b36 T_35
        have hel := evR_len x0 x1 x2
        obtain ⟨are, cre, rfl⟩ := (Rs.of_own oe).shape
        have Rre_0 := Lib.hid (Rd.of_own oe)
        clear oe
        have Rre_38 := Lib.hid (Rre_0.out.below ((Below.refl Y36.heap.size Y36).alloc (Nat.le_refl _) (.cells #[.int .i64 (evX x0 x1 x2), .int .i64 (evY x0 x1 x2), .slice are ((evR x0 x1 x2)).length cre] 55)) rfl)
        have T_38 := Lib.hid (T_37.out.alloc T_37.out.size (.cells #[.int .i64 (evX x0 x1 x2), .int .i64 (evY x0 x1 x2), .slice are ((evR x0 x1 x2)).length cre] 55))
        have Ke_38 := Lib.hid (blk_new3 Y36 (.int .i64 (evX x0 x1 x2)) (.int .i64 (evY x0 x1 x2)) (.slice are ((evR x0 x1 x2)).length cre) 55)
        clear Rre_0 T_37
        obtain ⟨ke0, ke1, ke2⟩ := blk_cell3 Ke_38.out
        go_wp2_with fail
        clear ke0 ke1 ke2
        generalize hW39 : Y36.alloc (.cells #[.int .i64 (evX x0 x1 x2), .int .i64 (evY x0 x1 x2), .slice are ((evR x0 x1 x2)).length cre] 55) = Z39 at *
        clear hW39
        refine (specEvenStarts_c x0 x1 x2 _ HWx0.out HWx1.out HWx2.out).mono ?_
        rintro e Y40 ⟨vf, rfl, of, b40⟩
        have Ke_41 := Lib.hid (blk_kept Ke_38.out b40)
        have Rre_41 := Lib.hid (Rre_38.out.below b40 rfl)
        have T_41 := Lib.hid (T_38.out.trans (b40.mono T_38.out.size))
        clear b40 Ke_38 Rre_38 T_38
        have HEK := Lib.hid (fun h => ev_keeps (L := x0) (S := x1) (n := x2) h)
        obtain ⟨arf, crf, rfl⟩ := (Rs.of_own of).shape
        have Rrf_0 := Lib.hid (Rd.of_own of)
        clear of
        generalize evX x0 x1 x2 = Le at *
        generalize evY x0 x1 x2 = Se at *
        generalize evR x0 x1 x2 = le9 at *
        generalize evOk x0 x1 x2 = ke at *
        have hn_le9 : le9.length ≤ 1048576 := by omega
        have Ke_42 := Lib.hid (blk_stay (o' := .cells #[.int .i64 Le, .int .i64 Se, .slice arf le9.length crf] 55) Ke_41.out)
        have Rre_42 := Lib.hid (Rre_41.out.below ((Below.refl Y40.heap.size Y40).alloc (Nat.le_refl _) (.cells #[.int .i64 Le, .int .i64 Se, .slice arf le9.length crf] 55)) rfl)
        have Rrf_42 := Lib.hid (Rrf_0.out.below ((Below.refl Y40.heap.size Y40).alloc (Nat.le_refl _) (.cells #[.int .i64 Le, .int .i64 Se, .slice arf le9.length crf] 55)) rfl)
        have T_42 := Lib.hid (T_41.out.alloc T_41.out.size (.cells #[.int .i64 Le, .int .i64 Se, .slice arf le9.length crf] 55))
        have Kf_42 := Lib.hid (blk_new3 Y40 (.int .i64 Le) (.int .i64 Se) (.slice arf le9.length crf) 55)
        clear Ke_41 Rre_41 Rrf_0 T_41
        obtain ⟨ke0, ke1, ke2⟩ := blk_cell3 Ke_42.out
        obtain ⟨kf0, kf1, kf2⟩ := blk_cell3 Kf_42.out
        go_wp2_with fail
        clear ke0 ke1 ke2 kf0 kf1 kf2
        generalize hW43 : Y40.alloc (.cells #[.int .i64 Le, .int .i64 Se, .slice arf le9.length crf] 55) = Z43 at *
        clear hW43
        refine (vCircleT_c Le Se (.slice are le9.length cre) (.slice arf le9.length crf) le9 _ Rre_42.out Rrf_42.out hn_le9).mono ?_
        rintro e Y44 ⟨rfl, b44⟩
        have Ke_45 := Lib.hid (blk_kept Ke_42.out b44)
        have Kf_45 := Lib.hid (blk_kept Kf_42.out b44)
        have Rre_45 := Lib.hid (Rre_42.out.below b44 rfl)
        have Rrf_45 := Lib.hid (Rrf_42.out.below b44 rfl)
        have T_45 := Lib.hid (T_42.out.trans (b44.mono T_42.out.size))
        clear b44 Ke_42 Kf_42 Rre_42 Rrf_42 T_42
        clear Kf_45 Rrf_45
        obtain ⟨ke0, ke1, ke2⟩ := blk_cell3 Ke_45.out
        go_upto_region 32 with fail
        clear ke0 ke1 ke2
        go_cut [217] from 213 to 216 (fun t wu => ∃ tt : Bool, t = .bool tt ∧ Hid (tt = true → ke = true ∧ 0 < x2) ∧ Hid (Below Y44.heap.size Y44 wu))
        case first =>
          as_aux_lemma =>
          cases ke with
          | false =>
            go_wp2
            go_meet
            case rel => exact ⟨false, rfl, Lib.hid (fun h => by cases h), Lib.hid (Below.refl _ _)⟩
          | true =>
            by_cases h0 : 0 < x2
            · have t1 : decide ((0 : Int) < x2) = true := decide_eq_true h0
              go_wp2
              go_meet
              case rel => exact ⟨true, rfl, Lib.hid (fun _ => ⟨(by first | rfl | trivial), h0⟩), Lib.hid (Below.refl _ _)⟩
            · have t1 : decide ((0 : Int) < x2) = false := decide_eq_false h0
              go_wp2
              go_meet
              case rel => exact ⟨false, rfl, Lib.hid (fun h => by cases h), Lib.hid (Below.refl _ _)⟩
        case rest =>
          obtain ⟨tt, rfl, HTT, hcut⟩ := hcut
          obtain ⟨wu, hwu⟩ := named9 hcut
          subst hwu
          have b74 := hcut.out
          clear hcut
          have Ke_46 := Lib.hid (blk_kept Ke_45.out b74)
          have Rre_46 := Lib.hid (Rre_45.out.below b74 rfl)
          have T_46 := Lib.hid (T_45.out.trans (b74.mono T_45.out.size))
          clear b74 Ke_45 Rre_45 T_45
          obtain ⟨ke0, ke1, ke2⟩ := blk_cell3 Ke_46.out
          go_upto_if 217 with fail
          clear ke0 ke1 ke2
          go_cut [] from 32 (fun wz => Hid (Below wu.heap.size wu wz))
          case first =>
            as_aux_lemma =>
            cases tt with
            | false =>
              go_wp2
              go_meet
              case rel => exact Lib.hid (Below.refl _ _)
            | true =>
              obtain ⟨hke, h0⟩ := HTT.out rfl
              obtain ⟨e1, e2, e3, hLb, hn12⟩ := HEK.out hke
              clear HEK HTT hke
              have hY := Lib.hid (Below.refl wu.heap.size wu)
              clear T_46
              obtain ⟨e4, e5⟩ := e3 h0
              have e1' := e1.symm
              have e2' := e2.symm
              clear e1 e2 e3
              subst e1' e2'
              have HA := Lib.hid (fun W h => implSmallestGap_c x0 x1 (.slice are le9.length cre) le9 W h hn_le9)
              rw [e4, e5] at HA
              clear e4 e5
              have q1 : Int.tdiv x0 x2 = x0 / x2 := Int.tdiv_eq_ediv_of_nonneg (by omega)
              have q3 : 0 ≤ x0 / x2 := Int.ediv_nonneg (by omega) (by omega)
              have q4 : x0 / x2 ≤ x0 := Int.ediv_le_self _ (by omega)
              have q2 : IntKind.i64.wrap (x0 / x2) = x0 / x2 := IntWalk.i64_in _ (by omega)
              generalize x0 / x2 = Q at *
              have t1 : decide ((0 : Int) < x2) = true := decide_eq_true h0
              have t2 : (x2 == 0) = false := by rw [beq_eq_false_iff_ne]; omega
              have t3 : ¬ x2 = 0 := by omega
              obtain ⟨ke0, ke1, ke2⟩ := blk_cell3 Ke_46.out
              go_wp2_with fail
              clear ke0 ke1 ke2
              refine (HA.out _ Rre_46.out).mono ?_
              rintro e Y47 ⟨rfl, b47⟩
              have Ke_48 := Lib.hid (blk_kept Ke_46.out b47)
              have Rre_48 := Lib.hid (Rre_46.out.below b47 rfl)
              have T_48 := Lib.hid (hY.out.trans (b47.mono hY.out.size))
              clear b47 Ke_46 Rre_46 hY
              clear HA
              go_wp2
              go_meet
              case rel => exact T_48
          case rest =>
            obtain ⟨wz, hwz⟩ := named9 hcut
            subst hwz
            have b73 := hcut.out
            clear hcut HEK HTT
            clear Ke_46 Rre_46
            have T_47 := Lib.hid (T_46.out.trans (b73.mono T_46.out.size))
            clear b73 T_46
            have HCode48 := Lib.hid (HC.out.below T_47.out)
            go_wp2_with fail
            refine (DrawSmallestGap_any a len cap _ HCode48.out).mono ?_
            rintro e X48 ⟨Lz, Sz, vz, lz, rfl, hL48, hS48, hl48, o48, b48⟩
            clear HCode48
            have T_49 := Lib.hid (T_47.out.trans (b48.mono T_47.out.size))
            clear b48 T_47
            have hn_lz : lz.length ≤ 1048576 := by omega
            obtain ⟨arz, crz, rfl⟩ := (Rs.of_own o48).shape
            have Rrz_0 := Lib.hid (Rd.of_own o48)
            clear o48
            have Rrz_50 := Lib.hid (Rrz_0.out.below ((Below.refl X48.heap.size X48).alloc (Nat.le_refl _) (.cells #[.int .i64 Lz, .int .i64 Sz, .slice arz lz.length crz] 55)) rfl)
            have T_50 := Lib.hid (T_49.out.alloc T_49.out.size (.cells #[.int .i64 Lz, .int .i64 Sz, .slice arz lz.length crz] 55))
            have Kz_50 := Lib.hid (blk_new3 X48 (.int .i64 Lz) (.int .i64 Sz) (.slice arz lz.length crz) 55)
            clear Rrz_0 T_49
            obtain ⟨kz0, kz1, kz2⟩ := blk_cell3 Kz_50.out
            go_wp2_with fail
            clear kz0 kz1 kz2
            generalize hW51 : X48.alloc (.cells #[.int .i64 Lz, .int .i64 Sz, .slice arz lz.length crz] 55) = Z51 at *
            clear hW51
            refine (implSmallestGap_c Lz Sz (.slice arz lz.length crz) lz _ Rrz_50.out hn_lz).mono ?_
            rintro e Y52 ⟨rfl, b52⟩
            have Kz_53 := Lib.hid (blk_kept Kz_50.out b52)
            have Rrz_53 := Lib.hid (Rrz_50.out.below b52 rfl)
            have T_53 := Lib.hid (T_50.out.trans (b52.mono T_50.out.size))
            clear b52 Kz_50 Rrz_50 T_50
            obtain ⟨kz0, kz1, kz2⟩ := blk_cell3 Kz_53.out
            go_wp2_with fail
            clear kz0 kz1 kz2
            refine (specSmallestGap_c Lz Sz (.slice arz lz.length crz) lz _ Rrz_53.out hn_lz).mono ?_
            rintro e Y54 ⟨rfl, b54⟩
            have Kz_55 := Lib.hid (blk_kept Kz_53.out b54)
            have Rrz_55 := Lib.hid (Rrz_53.out.below b54 rfl)
            have T_55 := Lib.hid (T_53.out.trans (b54.mono T_53.out.size))
            clear b54 Kz_53 Rrz_53 T_53
            generalize sgV Lz Sz lz = gz at *
            generalize sgOk Lz Sz lz = oz at *
            go_wp2
            go_ret
            exact ⟨rfl, T_55.out⟩
end Go.Proofs.Ytmmjbdffpgohdaa
