/- The law FnVotes's walk. Condition: sizes; no other. -/
import Derived.Test.YtoamhbobcpljpaaDrawWnd
import Derived.Test.YtoamhbobcpljpaaWndLaw
import Derived.Test.YtoamhbobcpljpaaWndHelp
import Derived.Test.YtoamhbobcpljpaaWndV
import Derived.WalkArith
import Derived.Deep.CutRange
import Derived.Deep.CutBlock
import Derived.Deep.DeepCutAuto
namespace Go.Proofs.Ytoamhbobcpljpaa
open Go.RowKit
set_option linter.unusedVariables false
theorem namedT {a w' : World} {B : Nat} (h : Hid (Below B a w')) : ∃ W : World, W = w' := ⟨_, rfl⟩
theorem Rd.ish {w : World} {v : Value} {l : List Int} (h : Rd w v (intVs l)) : ∃ a c, v = .slice a l.length c := by
  obtain ⟨a, c, hv⟩ := h.lt (base := 0)
  exact ⟨a, c, by simpa [intVs] using hv⟩
theorem gf_all {r : Wru} (h : wrV r = true) : nxOk r ⟨0, 0⟩ (gfV r) = true ∧ (nxR r ⟨0, 0⟩ (gfV r)).l = 0 ∧ nxOk r ⟨0, 0⟩ (gfV r + 1) = true ∧ (nxR r ⟨0, 0⟩ (gfV r + 1)).l ≠ 0 ∧ 0 ≤ gfV r ∧ gfV r ≤ 60 := by
  have h1 := (wrV_iff r).1 h
  have hg : gfV r = r.a - 1 := by simp [gfV, h]
  rw [hg]
  exact ⟨(gf_free h).1, (gf_free h).2, (gf_more h).1, (gf_more h).2, by omega, by omega⟩
set_option maxRecDepth 100000 in
set_option maxHeartbeats 4000000 in
theorem FnVotes_walk (a : Option Addr) (len cap : Nat) (w : World) (h : ByteRow w a len) :
    Calls Try.prog 4 #[.slice a len cap] w fun e w' => e = .returned (.bool true) ∧ Below w.heap.size w w' := by
  have hm := h.1
  have HC := Lib.hid h
  clear h
  by_cases hbig : 65536 < len
  · go_enter Try.func4, Try.ntmps4
    go_wp2_with fail
    refine (vBig_yes a len cap _ hbig hm).mono ?_
    rintro e w' ⟨rfl, rfl⟩
    go_wp2_with fail
    go_ret
    exact ⟨rfl, Below.refl _ _⟩
  · go_enter Try.func4, Try.ntmps4
    go_wp2_with fail
    refine (vBig_no a len cap _ (by omega)).mono ?_
    rintro e w' ⟨rfl, rfl⟩
    have T0 := Lib.hid (Below.refl w.heap.size w)
    have HCode1 := Lib.hid (HC.out.below T0.out)
    go_wp2_with fail
    refine (DrawVoteOf_any a len cap _ HCode1.out).mono ?_
    rintro e X1 ⟨v1, l1, rfl, r1, hl1, b1⟩
    clear HCode1
    have T_2 := Lib.hid (T0.out.trans (b1.mono T0.out.size))
    clear b1 T0
    obtain ⟨a1, c1, rfl⟩ := Rd.ish r1
    have R1_0 := Lib.hid r1
    clear r1
    go_wp2_with fail
    refine (implVoteOf_c (.slice a1 l1.length c1) l1 _ R1_0.out (by omega)).mono ?_
    rintro e Y3 ⟨rfl, b3⟩
    have R1_4 := Lib.hid (R1_0.out.below b3 rfl)
    have T_4 := Lib.hid (T_2.out.trans (b3.mono T_2.out.size))
    clear b3 R1_0 T_2
    go_wp2_with fail
    refine (specVoteOf_c (.slice a1 l1.length c1) l1 _ R1_4.out (by omega)).mono ?_
    rintro e Y5 ⟨rfl, b5⟩
    have R1_6 := Lib.hid (R1_4.out.below b5 rfl)
    have T_6 := Lib.hid (T_4.out.trans (b5.mono T_4.out.size))
    clear b5 R1_4 T_4
    have HV := Lib.hid (fun h : snL l1 = true => (show voV l1 = 60 ∨ voV l1 ∈ l1 by rw [vo_yes h]; exact (vt_mem h).imp id (fun h => h.1)))
    generalize voV l1 = vv at *
    generalize snL l1 = ok at *
    have t0 : (ok != ok) = false := by simp
    have t00 : (vv != vv) = false := by simp
    go_upto_region 6 with fail
    go_cut [76] from 3 to 75 (fun t wx => t = .bool false ∧ Hid (Below Y5.heap.size Y5 wx))
    case first =>
      as_aux_lemma =>
      cases ok with
      | false =>
        clear HV
        go_wp2
        go_meet
        case rel => exact ⟨rfl, Lib.hid (Below.refl _ _)⟩
      | true =>
        have hv := HV.out rfl
        clear HV
        by_cases h60 : vv = 60
        · subst h60
          clear hv
          go_wp2
          go_meet
          case rel => exact ⟨rfl, Lib.hid (Below.refl _ _)⟩
        · have t1 : (vv != 60) = true := by simpa using h60
          have HH := Lib.hid (fun W h => vHas_yes (.slice a1 l1.length c1) l1 vv W h (by omega) (hv.resolve_left h60))
          clear hv h60
          go_wp2_with fail
          refine (HH.out _ R1_6.out).mono ?_
          rintro e w1 ⟨rfl, hw1⟩
          rw [hw1]
          clear hw1 HH
          go_wp2
          go_meet
          case rel => exact ⟨rfl, Lib.hid (Below.refl _ _)⟩
    case rest =>
      obtain ⟨rfl, hcut⟩ := hcut
      clear R1_6
      obtain ⟨wx, hwx⟩ := namedT hcut
      subst hwx
      have bcwx := hcut.out
      clear hcut HV t0 t00
      have T_7 := Lib.hid (T_6.out.trans (bcwx.mono T_6.out.size))
      clear bcwx T_6
      have HCode8 := Lib.hid (HC.out.below T_7.out)
      go_wp2_with fail
      refine (DrawBrokenSensors_any a len cap _ HCode8.out).mono ?_
      rintro e X8 ⟨v2, l2, s2, rfl, r2, hl2, hs2, b8⟩
      clear HCode8
      have T_9 := Lib.hid (T_7.out.trans (b8.mono T_7.out.size))
      clear b8 T_7
      obtain ⟨a2, c2, rfl⟩ := Rd.ish r2
      have R2_0 := Lib.hid r2
      clear r2
      go_wp2_with fail
      refine (implBrokenSensors_c (.slice a2 l2.length c2) l2 s2 _ R2_0.out (by omega)).mono ?_
      rintro e Y10 ⟨vg, rfl, og, b10⟩
      have R2_11 := Lib.hid (R2_0.out.below b10 rfl)
      have T_11 := Lib.hid (T_9.out.trans (b10.mono T_9.out.size))
      clear b10 R2_0 T_9
      obtain ⟨ag, cg, rfl⟩ := (Rs.of_own og).shape
      have Rg_0 := Lib.hid (Rd.of_own og)
      clear og
      go_wp2_with fail
      refine (specBrokenSensors_c (.slice a2 l2.length c2) l2 s2 _ R2_11.out (by omega)).mono ?_
      rintro e Y12 ⟨vh, rfl, oh, b12⟩
      have R2_13 := Lib.hid (R2_11.out.below b12 rfl)
      have Rg_13 := Lib.hid (Rg_0.out.below b12 rfl)
      have T_13 := Lib.hid (T_11.out.trans (b12.mono T_11.out.size))
      clear b12 R2_11 Rg_0 T_11
      obtain ⟨ah, ch, rfl⟩ := (Rs.of_own oh).shape
      have Rh_0 := Lib.hid (Rd.of_own oh)
      clear oh
      have HB := Lib.hid (fun h => bs_more (l := l2) (p := s2) h)
      have hle := bsR_len l2 s2
      generalize bsOk l2 s2 = bo at *
      generalize bsR l2 s2 = lb at *
      have t0 : (bo != bo) = false := by simp
      go_wp2_with fail
      refine (vInts_c (.slice ag lb.length cg) (.slice ah lb.length ch) lb _ Rg_13.out Rh_0.out).mono ?_
      rintro e Y14 ⟨rfl, b14⟩
      have R2_15 := Lib.hid (R2_13.out.below b14 rfl)
      have Rg_15 := Lib.hid (Rg_13.out.below b14 rfl)
      have Rh_15 := Lib.hid (Rh_0.out.below b14 rfl)
      have T_15 := Lib.hid (T_13.out.trans (b14.mono T_13.out.size))
      clear b14 R2_13 Rg_13 Rh_0 T_13
      clear Rh_15
      clear t0
      go_upto_if 103 with fail
      go_cut [] from 3 (fun wy => Hid (Below Y14.heap.size Y14 wy))
      case first =>
        as_aux_lemma =>
        cases bo with
        | false =>
          go_wp2
          go_meet
          case rel => exact Lib.hid (Below.refl _ _)
        | true =>
          have hY0 := Lib.hid (Below.refl Y14.heap.size Y14)
          obtain ⟨h1, h2⟩ := HB.out rfl
          have EB := Lib.hid (fun W h => implBrokenSensors_c (.slice a2 l2.length c2) l2 (s2 + 1) W h (by omega))
          rw [h1] at EB
          have H2 := Lib.hid h2
          have hle2 := bsR_len l2 (s2 + 1)
          generalize bsR l2 (s2 + 1) = lc at *
          have wq : IntKind.i64.wrap (s2 + 1) = s2 + 1 := IntWalk.i64_in _ (by omega)
          clear h1 h2 HB
          go_wp2_with fail
          refine (EB.out _ R2_15.out).mono ?_
          rintro e Y16 ⟨vj, rfl, oj, b16⟩
          have hY17 := Lib.hid (hY0.out.trans (b16.mono hY0.out.size))
          clear hY0
          have R2_18 := Lib.hid (R2_15.out.below b16 rfl)
          have Rg_18 := Lib.hid (Rg_15.out.below b16 rfl)
          have T_18 := Lib.hid (T_15.out.trans (b16.mono T_15.out.size))
          clear b16 R2_15 Rg_15 T_15
          obtain ⟨aj, cj, rfl⟩ := (Rs.of_own oj).shape
          have Rj_0 := Lib.hid (Rd.of_own oj)
          clear oj
          go_wp2_with fail
          refine (vWithin_yes (.slice aj lc.length cj) (.slice ag lb.length cg) lc lb _ Rj_0.out Rg_18.out (by omega) (by omega) H2.out).mono ?_
          rintro e Y19 ⟨rfl, hsame19⟩
          rw [hsame19]
          clear hsame19
          clear EB H2
          go_wp2
          go_meet
          case rel => exact hY17
      case rest =>
        clear R2_15 Rg_15
        obtain ⟨wy, hwy⟩ := namedT hcut
        subst hwy
        have bcwy := hcut.out
        clear hcut HB
        have T_20 := Lib.hid (T_15.out.trans (bcwy.mono T_15.out.size))
        clear bcwy T_15
        have HCode21 := Lib.hid (HC.out.below T_20.out)
        go_wp2_with fail
        refine (DrawGreatestFree_any a len cap _ HCode21.out).mono ?_
        rintro e X21 ⟨x3, rfl, b21⟩
        clear HCode21
        unfold Wru.agg
        have T_22 := Lib.hid (T_20.out.trans (b21.mono T_20.out.size))
        clear b21 T_20
        go_upto_region 18 with fail
        have Kx3_230 : Hid ((X21.alloc (.cells #[.int .i64 x3.a, .int .i64 x3.b, .int .i64 x3.c, .int .i64 x3.d] 25)).heap[X21.heap.size]? = some (.cells #[.int .i64 x3.a, .int .i64 x3.b, .int .i64 x3.c, .int .i64 x3.d] 25)) := Lib.hid (nalW (by first | rfl | (simp; done) | (simp; omega)))
        have T_23 := Lib.hid ((T_22.out).alloc T_22.out.size (.cells #[.int .i64 x3.a, .int .i64 x3.b, .int .i64 x3.c, .int .i64 x3.d] 25))
        clear T_22
        generalize hwz23 : (X21.alloc (.cells #[.int .i64 x3.a, .int .i64 x3.b, .int .i64 x3.c, .int .i64 x3.d] 25)) = Z23 at *
        clear hwz23
        obtain ⟨q24_0, q24_1, q24_2, q24_3⟩ := blk_cell4D Kx3_230.out
        go_wp2_with fail
        clear q24_0 q24_1 q24_2 q24_3
        refine (implGreatestFree_c x3 _).mono ?_
        rintro e Y25 ⟨rfl, b25⟩
        have Kx3_26 := Lib.hid ((b25.block _ (Array.getElem?_eq_some_iff.1 Kx3_230.out).1).trans Kx3_230.out)
        have T_26 := Lib.hid (T_23.out.trans (b25.mono T_23.out.size))
        clear b25 Kx3_230 T_23
        obtain ⟨q27_0, q27_1, q27_2, q27_3⟩ := blk_cell4D Kx3_26.out
        go_wp2_with fail
        clear q27_0 q27_1 q27_2 q27_3
        refine (specGreatestFree_c x3 _).mono ?_
        rintro e Y28 ⟨rfl, b28⟩
        have Kx3_29 := Lib.hid ((b28.block _ (Array.getElem?_eq_some_iff.1 Kx3_26.out).1).trans Kx3_26.out)
        have T_29 := Lib.hid (T_26.out.trans (b28.mono T_26.out.size))
        clear b28 Kx3_26 T_26
        have HG := Lib.hid (fun h => gf_all (r := x3) h)
        generalize gfV x3 = gv at *
        generalize wrV x3 = wo at *
        have t0 : (wo != wo) = false := by simp
        have t00 : (gv != gv) = false := by simp
        obtain ⟨q30_0, q30_1, q30_2, q30_3⟩ := blk_cell4D Kx3_29.out
        go_upto_if 139 with fail
        go_cut [] from 3 (fun wz => Hid (Below Y28.heap.size Y28 wz))
        clear q30_0 q30_1 q30_2 q30_3
        case first =>
          as_aux_lemma =>
          cases wo with
          | false =>
            go_wp2
            go_meet
            case rel => exact Lib.hid (Below.refl _ _)
          | true =>
            have hY0 := Lib.hid (Below.refl Y28.heap.size Y28)
            obtain ⟨h1, h2, h3, h4, h5, h6⟩ := HG.out rfl
            clear HG
            have E1 : Hid (∀ W, Calls Try.prog 21 #[.agg #[.int .i64 x3.a, .int .i64 x3.b, .int .i64 x3.c, .int .i64 x3.d], .agg #[.int .i64 0, .int .i64 0], .int .i64 (gv)] W fun e w' => e = .returned (.tuple #[.agg #[.int .i64 0, .int .i64 (nxR x3 ⟨0, 0⟩ gv).c], .bool true]) ∧ Below W.heap.size W w') := Lib.hid (fun W => by have := implNextWind_c x3 ⟨0, 0⟩ (gv) W; simp only [h1, h2] at this; exact this)
            have E2 : Hid (∀ W, Calls Try.prog 21 #[.agg #[.int .i64 x3.a, .int .i64 x3.b, .int .i64 x3.c, .int .i64 x3.d], .agg #[.int .i64 0, .int .i64 0], .int .i64 (gv + 1)] W fun e w' => e = .returned (.tuple #[.agg #[.int .i64 (nxR x3 ⟨0, 0⟩ (gv + 1)).l, .int .i64 (nxR x3 ⟨0, 0⟩ (gv + 1)).c], .bool true]) ∧ Below W.heap.size W w') := Lib.hid (fun W => by have := implNextWind_c x3 ⟨0, 0⟩ (gv + 1) W; simp only [h3] at this; exact this)
            generalize (nxR x3 ⟨0, 0⟩ gv).c = n1 at *
            generalize (nxR x3 ⟨0, 0⟩ (gv + 1)).l = n2 at *
            generalize (nxR x3 ⟨0, 0⟩ (gv + 1)).c = n3 at *
            have t1 : (n2 == 0) = false := by simpa using h4
            have wq : IntKind.i64.wrap (gv + 1) = gv + 1 := IntWalk.i64_in _ (by omega)
            clear h1 h2 h3 h4 h5 h6 t0 t00
            obtain ⟨q31_0, q31_1, q31_2, q31_3⟩ := blk_cell4D Kx3_29.out
            go_wp2_with fail
            clear q31_0 q31_1 q31_2 q31_3
            refine (E1.out _).mono ?_
            rintro e Y32 ⟨rfl, b32⟩
            have hY33 := Lib.hid (hY0.out.trans (b32.mono hY0.out.size))
            clear hY0
            have Kx3_34 := Lib.hid ((b32.block _ (Array.getElem?_eq_some_iff.1 Kx3_29.out).1).trans Kx3_29.out)
            have T_34 := Lib.hid (T_29.out.trans (b32.mono T_29.out.size))
            clear b32 Kx3_29 T_29
            obtain ⟨q36_0, q36_1, q36_2, q36_3⟩ := blk_cell4D Kx3_34.out
            go_upto_region 24 with fail
            clear q36_0 q36_1 q36_2 q36_3
            have Kx3_350 := Lib.hid (old_allocD (W := Y32) (o' := .cells #[.int .i64 0, .int .i64 n1] 27) Kx3_34.out)
            have Kn1_350 : Hid ((Y32.alloc (.cells #[.int .i64 0, .int .i64 n1] 27)).heap[Y32.heap.size]? = some (.cells #[.int .i64 0, .int .i64 n1] 27)) := Lib.hid (nalW (by first | rfl | (simp; done) | (simp; omega)))
            have T_35 := Lib.hid ((T_34.out).alloc T_34.out.size (.cells #[.int .i64 0, .int .i64 n1] 27))
            have hY35 := Lib.hid ((hY33.out).alloc hY33.out.size (.cells #[.int .i64 0, .int .i64 n1] 27))
            clear Kx3_34 T_34 hY33
            generalize hwz35 : (Y32.alloc (.cells #[.int .i64 0, .int .i64 n1] 27)) = Z35 at *
            clear hwz35
            obtain ⟨q37_0, q37_1, q37_2, q37_3⟩ := blk_cell4D Kx3_350.out
            obtain ⟨q38_0, q38_1⟩ := blk_cell2 Kn1_350.out
            go_wp2_with fail
            clear q37_0 q37_1 q37_2 q37_3 q38_0 q38_1
            refine (E2.out _).mono ?_
            rintro e Y39 ⟨rfl, b39⟩
            have hY40 := Lib.hid (hY35.out.trans (b39.mono hY35.out.size))
            clear hY35
            have Kx3_41 := Lib.hid ((b39.block _ (Array.getElem?_eq_some_iff.1 Kx3_350.out).1).trans Kx3_350.out)
            have Kn1_41 := Lib.hid ((b39.block _ (Array.getElem?_eq_some_iff.1 Kn1_350.out).1).trans Kn1_350.out)
            have T_41 := Lib.hid (T_35.out.trans (b39.mono T_35.out.size))
            clear b39 Kx3_350 Kn1_350 T_35
            obtain ⟨q43_0, q43_1, q43_2, q43_3⟩ := blk_cell4D Kx3_41.out
            obtain ⟨q44_0, q44_1⟩ := blk_cell2 Kn1_41.out
            go_upto_region 25 with fail
            clear q43_0 q43_1 q43_2 q43_3 q44_0 q44_1
            have Kx3_420 := Lib.hid (old_allocD (W := Y39) (o' := .cells #[.int .i64 n2, .int .i64 n3] 27) Kx3_41.out)
            have Kn1_420 := Lib.hid (old_allocD (W := Y39) (o' := .cells #[.int .i64 n2, .int .i64 n3] 27) Kn1_41.out)
            have Kn2_420 : Hid ((Y39.alloc (.cells #[.int .i64 n2, .int .i64 n3] 27)).heap[Y39.heap.size]? = some (.cells #[.int .i64 n2, .int .i64 n3] 27)) := Lib.hid (nalW (by first | rfl | (simp; done) | (simp; omega)))
            have T_42 := Lib.hid ((T_41.out).alloc T_41.out.size (.cells #[.int .i64 n2, .int .i64 n3] 27))
            have hY42 := Lib.hid ((hY40.out).alloc hY40.out.size (.cells #[.int .i64 n2, .int .i64 n3] 27))
            clear Kx3_41 Kn1_41 T_41 hY40
            generalize hwz42 : (Y39.alloc (.cells #[.int .i64 n2, .int .i64 n3] 27)) = Z42 at *
            clear hwz42
            clear E1 E2
            obtain ⟨q45_0, q45_1, q45_2, q45_3⟩ := blk_cell4D Kx3_420.out
            obtain ⟨q46_0, q46_1⟩ := blk_cell2 Kn1_420.out
            obtain ⟨q47_0, q47_1⟩ := blk_cell2 Kn2_420.out
            go_wp2
            go_meet
            case rel => exact hY42
        case rest =>
          clear Kx3_29
          obtain ⟨wz, hwz⟩ := namedT hcut
          subst hwz
          have bcwz := hcut.out
          clear hcut HG t0 t00
          have T_48 := Lib.hid (T_29.out.trans (bcwz.mono T_29.out.size))
          clear bcwz T_29
          have HCode49 := Lib.hid (HC.out.below T_48.out)
          go_wp2_with fail
          refine (DrawCompareRules_any a len cap _ HCode49.out).mono ?_
          rintro e X49 ⟨x4, y4, v4, l4, rfl, r4, hl4, b49⟩
          clear HCode49
          unfold Wru.agg
          have T_50 := Lib.hid (T_48.out.trans (b49.mono T_48.out.size))
          clear b49 T_48
          obtain ⟨a4, c4, rfl⟩ := Rd.ish r4
          have R4_0 := Lib.hid r4
          clear r4
          go_upto_region 28 with fail
          have Kx4_510 : Hid ((X49.alloc (.cells #[.int .i64 x4.a, .int .i64 x4.b, .int .i64 x4.c, .int .i64 x4.d] 25)).heap[X49.heap.size]? = some (.cells #[.int .i64 x4.a, .int .i64 x4.b, .int .i64 x4.c, .int .i64 x4.d] 25)) := Lib.hid (nalW (by first | rfl | (simp; done) | (simp; omega)))
          have Kx4_511 := Lib.hid (old_allocD (W := (X49.alloc (.cells #[.int .i64 x4.a, .int .i64 x4.b, .int .i64 x4.c, .int .i64 x4.d] 25))) (o' := .cells #[.int .i64 y4.a, .int .i64 y4.b, .int .i64 y4.c, .int .i64 y4.d] 25) Kx4_510.out)
          have Ky4_511 : Hid (((X49.alloc (.cells #[.int .i64 x4.a, .int .i64 x4.b, .int .i64 x4.c, .int .i64 x4.d] 25)).alloc (.cells #[.int .i64 y4.a, .int .i64 y4.b, .int .i64 y4.c, .int .i64 y4.d] 25)).heap[X49.heap.size + 1]? = some (.cells #[.int .i64 y4.a, .int .i64 y4.b, .int .i64 y4.c, .int .i64 y4.d] 25)) := Lib.hid (nalW (by first | rfl | (simp; done) | (simp; omega)))
          have R4_51 := Lib.hid (R4_0.out.below (((Below.refl X49.heap.size X49).alloc (by first | exact Nat.le_refl _ | (simp; done) | (simp; omega)) (.cells #[.int .i64 x4.a, .int .i64 x4.b, .int .i64 x4.c, .int .i64 x4.d] 25)).alloc (by first | exact Nat.le_refl _ | (simp; done) | (simp; omega)) (.cells #[.int .i64 y4.a, .int .i64 y4.b, .int .i64 y4.c, .int .i64 y4.d] 25)) rfl)
          have T_51 := Lib.hid (((T_50.out).alloc T_50.out.size (.cells #[.int .i64 x4.a, .int .i64 x4.b, .int .i64 x4.c, .int .i64 x4.d] 25)).alloc (by have := T_50.out.size; simp <;> omega) (.cells #[.int .i64 y4.a, .int .i64 y4.b, .int .i64 y4.c, .int .i64 y4.d] 25))
          clear Kx4_510 R4_0 T_50
          generalize hwz51 : ((X49.alloc (.cells #[.int .i64 x4.a, .int .i64 x4.b, .int .i64 x4.c, .int .i64 x4.d] 25)).alloc (.cells #[.int .i64 y4.a, .int .i64 y4.b, .int .i64 y4.c, .int .i64 y4.d] 25)) = Z51 at *
          clear hwz51
          obtain ⟨q52_0, q52_1, q52_2, q52_3⟩ := blk_cell4D Kx4_511.out
          obtain ⟨q53_0, q53_1, q53_2, q53_3⟩ := blk_cell4D Ky4_511.out
          go_wp2_with fail
          clear q52_0 q52_1 q52_2 q52_3 q53_0 q53_1 q53_2 q53_3
          refine (implCompareRules_c x4 y4 (.slice a4 l4.length c4) l4 _ R4_51.out (by omega)).mono ?_
          rintro e Y54 ⟨rfl, b54⟩
          have R4_55 := Lib.hid (R4_51.out.below b54 rfl)
          have Kx4_55 := Lib.hid ((b54.block _ (Array.getElem?_eq_some_iff.1 Kx4_511.out).1).trans Kx4_511.out)
          have Ky4_55 := Lib.hid ((b54.block _ (Array.getElem?_eq_some_iff.1 Ky4_511.out).1).trans Ky4_511.out)
          have T_55 := Lib.hid (T_51.out.trans (b54.mono T_51.out.size))
          clear b54 R4_51 Kx4_511 Ky4_511 T_51
          obtain ⟨q56_0, q56_1, q56_2, q56_3⟩ := blk_cell4D Kx4_55.out
          obtain ⟨q57_0, q57_1, q57_2, q57_3⟩ := blk_cell4D Ky4_55.out
          go_wp2_with fail
          clear q56_0 q56_1 q56_2 q56_3 q57_0 q57_1 q57_2 q57_3
          refine (specCompareRules_c x4 y4 (.slice a4 l4.length c4) l4 _ R4_55.out (by omega)).mono ?_
          rintro e Y58 ⟨rfl, b58⟩
          have R4_59 := Lib.hid (R4_55.out.below b58 rfl)
          have Kx4_59 := Lib.hid ((b58.block _ (Array.getElem?_eq_some_iff.1 Kx4_55.out).1).trans Kx4_55.out)
          have Ky4_59 := Lib.hid ((b58.block _ (Array.getElem?_eq_some_iff.1 Ky4_55.out).1).trans Ky4_55.out)
          have T_59 := Lib.hid (T_55.out.trans (b58.mono T_55.out.size))
          clear b58 R4_55 Kx4_55 Ky4_55 T_55
          have HL := Lib.hid (fun h => cm_law (a := x4) (b := y4) (l := l4) h)
          generalize cmV x4 y4 l4 = cv at *
          generalize cmOk x4 y4 l4 = co at *
          have t0 : (co != co) = false := by simp
          have t00 : (cv != cv) = false := by simp
          obtain ⟨q60_0, q60_1, q60_2, q60_3⟩ := blk_cell4D Kx4_59.out
          obtain ⟨q61_0, q61_1, q61_2, q61_3⟩ := blk_cell4D Ky4_59.out
          go_upto_if 199 with fail
          go_cut [] from 3 (fun wa => Hid (Below Y58.heap.size Y58 wa))
          clear q60_0 q60_1 q60_2 q60_3 q61_0 q61_1 q61_2 q61_3
          case first =>
            as_aux_lemma =>
            cases co with
            | false =>
              go_wp2
              go_meet
              case rel => exact Lib.hid (Below.refl _ _)
            | true =>
              have hY0 := Lib.hid (Below.refl Y58.heap.size Y58)
              obtain ⟨h1, h2, h3, h4, h5, h6⟩ := HL.out rfl
              have E1 := Lib.hid (fun W hr => implCompareRules_c y4 x4 (.slice a4 l4.length c4) l4 W hr (by omega))
              have E2 := Lib.hid (fun W hr => implCompareRules_c x4 x4 (.slice a4 l4.length c4) l4 W hr (by omega))
              rw [h1] at E1
              rw [h2, h4] at E2
              generalize cmV y4 x4 l4 = cz at *
              have wq : IntKind.i64.wrap (cv + cz) = cv + cz := IntWalk.i64_in _ (by omega)
              have t1 : decide ((l4.length : Int) < cv + cz) = false := by simp; omega
              clear h1 h2 h3 h4 h5 h6 t0 t00 HL
              obtain ⟨q62_0, q62_1, q62_2, q62_3⟩ := blk_cell4D Kx4_59.out
              obtain ⟨q63_0, q63_1, q63_2, q63_3⟩ := blk_cell4D Ky4_59.out
              go_wp2_with fail
              clear q62_0 q62_1 q62_2 q62_3 q63_0 q63_1 q63_2 q63_3
              refine (E1.out _ R4_59.out).mono ?_
              rintro e Y64 ⟨rfl, b64⟩
              have hY65 := Lib.hid (hY0.out.trans (b64.mono hY0.out.size))
              clear hY0
              have R4_66 := Lib.hid (R4_59.out.below b64 rfl)
              have Kx4_66 := Lib.hid ((b64.block _ (Array.getElem?_eq_some_iff.1 Kx4_59.out).1).trans Kx4_59.out)
              have Ky4_66 := Lib.hid ((b64.block _ (Array.getElem?_eq_some_iff.1 Ky4_59.out).1).trans Ky4_59.out)
              have T_66 := Lib.hid (T_59.out.trans (b64.mono T_59.out.size))
              clear b64 R4_59 Kx4_59 Ky4_59 T_59
              obtain ⟨q67_0, q67_1, q67_2, q67_3⟩ := blk_cell4D Kx4_66.out
              obtain ⟨q68_0, q68_1, q68_2, q68_3⟩ := blk_cell4D Ky4_66.out
              go_wp2_with fail
              clear q67_0 q67_1 q67_2 q67_3 q68_0 q68_1 q68_2 q68_3
              refine (E2.out _ R4_66.out).mono ?_
              rintro e Y69 ⟨rfl, b69⟩
              have hY70 := Lib.hid (hY65.out.trans (b69.mono hY65.out.size))
              clear hY65
              have R4_71 := Lib.hid (R4_66.out.below b69 rfl)
              have Kx4_71 := Lib.hid ((b69.block _ (Array.getElem?_eq_some_iff.1 Kx4_66.out).1).trans Kx4_66.out)
              have Ky4_71 := Lib.hid ((b69.block _ (Array.getElem?_eq_some_iff.1 Ky4_66.out).1).trans Ky4_66.out)
              have T_71 := Lib.hid (T_66.out.trans (b69.mono T_66.out.size))
              clear b69 R4_66 Kx4_66 Ky4_66 T_66
              clear E1 E2
              obtain ⟨q72_0, q72_1, q72_2, q72_3⟩ := blk_cell4D Kx4_71.out
              obtain ⟨q73_0, q73_1, q73_2, q73_3⟩ := blk_cell4D Ky4_71.out
              go_wp2
              go_meet
              case rel => exact hY70
          case rest =>
            clear Kx4_59 Ky4_59
            clear R4_59
            obtain ⟨wa, hwa⟩ := namedT hcut
            subst hwa
            have bcwa := hcut.out
            clear hcut HL t0 t00
            have T_74 := Lib.hid (T_59.out.trans (bcwa.mono T_59.out.size))
            clear bcwa T_59
            have HCode75 := Lib.hid (HC.out.below T_74.out)
            go_wp2_with fail
            refine (DrawTimeStopped_any a len cap _ HCode75.out).mono ?_
            rintro e X75 ⟨x5, v5, l5, rfl, r5, hl5, b75⟩
            clear HCode75
            unfold Wru.agg
            have T_76 := Lib.hid (T_74.out.trans (b75.mono T_74.out.size))
            clear b75 T_74
            obtain ⟨a5, c5, rfl⟩ := Rd.ish r5
            have R5_0 := Lib.hid r5
            clear r5
            go_upto_region 38 with fail
            have Kx5_770 : Hid ((X75.alloc (.cells #[.int .i64 x5.a, .int .i64 x5.b, .int .i64 x5.c, .int .i64 x5.d] 25)).heap[X75.heap.size]? = some (.cells #[.int .i64 x5.a, .int .i64 x5.b, .int .i64 x5.c, .int .i64 x5.d] 25)) := Lib.hid (nalW (by first | rfl | (simp; done) | (simp; omega)))
            have R5_77 := Lib.hid (R5_0.out.below ((Below.refl X75.heap.size X75).alloc (by first | exact Nat.le_refl _ | (simp; done) | (simp; omega)) (.cells #[.int .i64 x5.a, .int .i64 x5.b, .int .i64 x5.c, .int .i64 x5.d] 25)) rfl)
            have T_77 := Lib.hid ((T_76.out).alloc T_76.out.size (.cells #[.int .i64 x5.a, .int .i64 x5.b, .int .i64 x5.c, .int .i64 x5.d] 25))
            clear R5_0 T_76
            generalize hwz77 : (X75.alloc (.cells #[.int .i64 x5.a, .int .i64 x5.b, .int .i64 x5.c, .int .i64 x5.d] 25)) = Z77 at *
            clear hwz77
            obtain ⟨q78_0, q78_1, q78_2, q78_3⟩ := blk_cell4D Kx5_770.out
            go_wp2_with fail
            clear q78_0 q78_1 q78_2 q78_3
            refine (implTimeStopped_c x5 (.slice a5 l5.length c5) l5 _ R5_77.out (by omega)).mono ?_
            rintro e Y79 ⟨rfl, b79⟩
            have R5_80 := Lib.hid (R5_77.out.below b79 rfl)
            have Kx5_80 := Lib.hid ((b79.block _ (Array.getElem?_eq_some_iff.1 Kx5_770.out).1).trans Kx5_770.out)
            have T_80 := Lib.hid (T_77.out.trans (b79.mono T_77.out.size))
            clear b79 R5_77 Kx5_770 T_77
            obtain ⟨q81_0, q81_1, q81_2, q81_3⟩ := blk_cell4D Kx5_80.out
            go_wp2_with fail
            clear q81_0 q81_1 q81_2 q81_3
            refine (specTimeStopped_c x5 (.slice a5 l5.length c5) l5 _ R5_80.out (by omega)).mono ?_
            rintro e Y82 ⟨rfl, b82⟩
            have R5_83 := Lib.hid (R5_80.out.below b82 rfl)
            have Kx5_83 := Lib.hid ((b82.block _ (Array.getElem?_eq_some_iff.1 Kx5_80.out).1).trans Kx5_80.out)
            have T_83 := Lib.hid (T_80.out.trans (b82.mono T_80.out.size))
            clear b82 R5_80 Kx5_80 T_80
            generalize tsV x5 l5 = tv at *
            generalize tsOk x5 l5 = tk at *
            have t0 : (tk == tk) = true := by simp
            have t00 : (tv == tv) = true := by simp
            go_wp2
            go_ret
            exact ⟨by simp, T_83.out⟩
end Go.Proofs.Ytoamhbobcpljpaa
