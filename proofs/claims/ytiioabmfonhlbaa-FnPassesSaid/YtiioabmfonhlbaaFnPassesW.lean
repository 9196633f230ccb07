/- The law FnPasses's walk. Condition: sizes. -/
import Derived.Test.YtiioabmfonhlbaaCirLaw
import Derived.WalkArith
import Derived.Deep.CutRange
import Derived.Deep.CutBlock
import Derived.Deep.DeepCutAuto
namespace Go.Proofs.Ytiioabmfonhlbaa
open Go.RowKit
set_option linter.unusedVariables false
theorem blk_kept {w w' : World} {b : Nat} {o : Obj} (h : w.heap[b]? = some o) (k : Below w.heap.size w w') : w'.heap[b]? = some o := blk_keep h k (blk_lt h)
theorem npS_bd {L S : Int} {l : List Int} {p T : Int} (h : npOk L S l p T = true) : 0 ≤ npS L S l p T ∧ npS L S l p T ≤ 1000000000 := by
  have h' := h
  unfold npOk cpOk at h'
  rw [Bool.and_eq_true, Bool.and_eq_true, Bool.and_eq_true, decide_eq_true_iff] at h'
  obtain ⟨⟨hc, _, hT⟩, h0⟩ := h'
  obtain ⟨hL, hS, _, _⟩ := cirV_parts hc
  have ht := (inR_iff T 0 100000).1 hT
  have hm1 : 0 ≤ S * T := Int.mul_nonneg (by omega) ht.1
  have hm2 : S * T ≤ 100 * 100000 := Int.mul_le_mul hS.2 ht.2 ht.1 (by omega)
  have hb := nf8_bd (L := L) (S := S) (l := l) (p := p) (T := T) hL ⟨hm1, by omega⟩ (amin (nf8 L S l p T) (l.length - 1))
  rw [(np_yes h).2]
  unfold secOf
  refine ⟨Int.ediv_nonneg (by omega) (by omega), Int.le_trans (Int.ediv_le_self _ (by omega)) (by omega)⟩
theorem pl_facts {L S T : Int} {l : List Int} (h : plOk L S l T = true) : (plR L S l T).length = l.length ∧ (gpR L S l).length = l.length ∧ cirV L S l = true ∧ (10 ≤ L ∧ L ≤ 4000) ∧ (∀ i, i < l.length → 0 ≤ (plR L S l T).getD i 0 ∧ (plR L S l T).getD i 0 < 10 * L) ∧ (∀ i, i < l.length → 0 ≤ (gpR L S l).getD i 0 ∧ (gpR L S l).getD i 0 ≤ 4000) ∧ (∀ i, i < l.length → 1 < l.length → ((plR L S l T).getD ((i + 1) % l.length) 0 - (plR L S l T).getD i 0 + 10 * L) % (10 * L) = 10 * (gpR L S l).getD i 0) := by
  have h' := h
  unfold plOk at h'
  rw [Bool.and_eq_true] at h'
  obtain ⟨hL, hS, hri, h12⟩ := cirV_parts h'.1
  refine ⟨by rw [pl_yes h, placesTo_len], by rw [gp_yes h'.1, gapsL_len], h'.1, hL, fun i hi => ?_, fun i hi => ?_, fun i hi h1 => pl_gap h h1 hi⟩
  · rw [pl_yes h, placesTo_at hi]; exact placeAt_range (by omega)
  · rw [gp_yes h'.1]; unfold gapsL; rw [gapsTo_at hi]; have := gap_bd hri hi; omega
theorem rt_facts {L S : Int} {l : List Int} (h : cirV L S l = true) : ∃ P M : Int, IntKind.i64.wrap (rtN L S l * S) = P ∧ IntKind.i64.wrap (10 * L) = M ∧ IntKind.i64.wrap (M * rtD L S l) = P := by
  obtain ⟨hL, hS, _, _⟩ := cirV_parts h
  have hd : 0 ≤ rtD L S l ∧ rtD L S l ≤ 100 := by
    unfold rtD
    rw [if_pos h]
    have hg := gcdI_pos (n := 10 * L) (d := S) (by omega)
    exact ⟨Int.ediv_nonneg (by omega) (by omega), Int.le_trans (Int.ediv_le_self _ (by omega)) (by omega)⟩
  have h1 : 0 ≤ 10 * L * rtD L S l := Int.mul_nonneg (by omega) hd.1
  have h2 : 10 * L * rtD L S l ≤ 40000 * 100 := Int.mul_le_mul (by omega) hd.2 hd.1 (by omega)
  refine ⟨10 * L * rtD L S l, 10 * L, ?_, IntWalk.i64_in _ (by omega), IntWalk.i64_in _ (by omega)⟩
  rw [rt_law h]
  exact IntWalk.i64_in _ (by omega)
set_option maxRecDepth 100000 in
set_option maxHeartbeats 4000000 in
theorem FnPasses_walk (a : Option Addr) (len cap : Nat) (w : World) (h : ByteRow w a len) :
    Calls Try.prog 4 #[.slice a len cap] w fun e w' => e = .returned (.bool true) ∧ Below w.heap.size w w' := by
  have hm := h.1
  have HC := Lib.hid h
  clear h
  by_cases hbig : 65536 < len
  · go_enter Try.func4, Try.ntmps4
    go_wp2_with fail
    refine (vBig_yes a len cap _ hbig hm).mono ?_
    rintro e w' ⟨rfl, rfl⟩
    go_wp2_with fail
    go_ret
    exact ⟨rfl, Below.refl _ _⟩
  · go_enter Try.func4, Try.ntmps4
    go_wp2_with fail
    refine (vBig_no a len cap _ (by omega)).mono ?_
    rintro e w' ⟨rfl, rfl⟩
    have T0 := Lib.hid (Below.refl w.heap.size w)
    have HCode1 := Lib.hid (HC.out.below T0.out)
    go_wp2_with fail
    refine (DrawNextPass_any a len cap _ HCode1.out).mono ?_
    rintro e X1 ⟨L1, S1, v1, l1, p1, q1, rfl, hL1, hS1, hl1, o1, hp1, hq1, b1⟩
    obtain ⟨va1, vc1, rfl⟩ := (Rs.of_own o1).shape
    have KA1 := Lib.hid (blk_new3 X1 (.int .i64 L1) (.int .i64 S1) (.slice va1 l1.length vc1) 26)
    have RA1 := Lib.hid ((Rd.of_own o1).below ((Below.refl X1.heap.size X1).alloc (Nat.le_refl _) (.cells #[.int .i64 L1, .int .i64 S1, .slice va1 l1.length vc1] 26)) rfl)
    have TA1 := Lib.hid (have hT := T0.out.trans (b1.mono T0.out.size); hT.alloc hT.size (.cells #[.int .i64 L1, .int .i64 S1, .slice va1 l1.length vc1] 26))
    have hln1 : l1.length ≤ 1048576 := by omega
    clear o1 b1 HCode1
    obtain ⟨k0, k1, k2⟩ := blk_cell3 KA1.out
    have HWp1 := Lib.hid (WalkArith.wf_i64 (n := p1) (by omega))
    have HWq1 := Lib.hid (WalkArith.wf_i64 (n := q1) (by omega))
    go_wp2_with fail
    refine (implNextPass_c L1 S1 (.slice va1 l1.length vc1) l1 p1 q1 _ RA1.out hln1 HWp1.out HWq1.out).mono ?_
    rintro e Y2 ⟨rfl, b2⟩
    have K2 := Lib.hid (blk_kept KA1.out b2)
    have R2 := Lib.hid (RA1.out.below b2 rfl)
    have T2 := Lib.hid (TA1.out.trans (b2.mono TA1.out.size))
    clear b2 k0 k1 k2 KA1 RA1 TA1
    obtain ⟨k0, k1, k2⟩ := blk_cell3 K2.out
    go_wp2_with fail
    refine (specNextPass_c L1 S1 (.slice va1 l1.length vc1) l1 p1 q1 _ R2.out hln1 HWp1.out HWq1.out).mono ?_
    rintro e Y3 ⟨rfl, b3⟩
    have K3 := Lib.hid (blk_kept K2.out b3)
    have R3 := Lib.hid (R2.out.below b3 rfl)
    have T3 := Lib.hid (T2.out.trans (b3.mono T2.out.size))
    clear b3 k0 k1 k2 K2 R2 T2
    obtain ⟨k0, k1, k2⟩ := blk_cell3 K3.out
    have HLA := Lib.hid (fun h => np_pass (L := L1) (S := S1) (l := l1) (p := p1) (T := q1) h)
    have HBD := Lib.hid (fun h => npS_bd (L := L1) (S := S1) (l := l1) (p := p1) (T := q1) h)
    generalize npOk L1 S1 l1 p1 q1 = ok at *
    generalize hns : npS L1 S1 l1 p1 q1 = ns at *
    generalize npI L1 S1 l1 p1 q1 = ni at *
    clear hns
    go_upto_if 78 with fail
    go_cut [] from 12 (fun wx => Hid (Below Y3.heap.size Y3 wx))
    case first =>
      as_aux_lemma =>
      cases ok with
      | false =>
        go_wp2
        go_meet
        case rel => exact Lib.hid (Below.refl _ _)
      | true =>
        obtain ⟨hge, hpb, hcp⟩ := HLA.out rfl
        obtain ⟨hn0, hn1⟩ := HBD.out rfl
        have HWn := Lib.hid (WalkArith.wf_i64 (n := ns) (by omega))
        have HPB := Lib.hid hpb
        have HA := Lib.hid (fun W h => implPassesBy_c L1 S1 (.slice va1 l1.length vc1) l1 p1 ns W h hln1 HWp1.out HWn.out)
        have HB := Lib.hid (fun W h => implPassesBy_c L1 S1 (.slice va1 l1.length vc1) l1 p1 q1 W h hln1 HWp1.out HWq1.out)
        rw [hcp] at HB
        clear hpb hcp HLA HBD
        generalize pbR L1 S1 l1 p1 ns = m2 at *
        generalize pbR L1 S1 l1 p1 q1 = m1 at *
        generalize cpOk L1 S1 l1 p1 ns = one at *
        have hY := Lib.hid (Below.refl Y3.heap.size Y3)
        have t1 : decide (ns < q1) = false := by rw [decide_eq_false_iff_not]; omega
        go_wp2_with fail
        refine (HA.out _ R3.out).mono ?_
        rintro e Y4 ⟨rfl, b4⟩
        have K4 := Lib.hid (blk_kept K3.out b4)
        have R4 := Lib.hid (R3.out.below b4 rfl)
        have T4 := Lib.hid (hY.out.trans (b4.mono hY.out.size))
        clear b4 k0 k1 k2 HA
        obtain ⟨k0, k1, k2⟩ := blk_cell3 K4.out
        cases one with
        | false =>
          go_wp2
          go_meet
          case rel => exact T4
        | true =>
          obtain ⟨h1, h2⟩ := HPB.out rfl
          go_wp2_with fail
          refine (HB.out _ R4.out).mono ?_
          rintro e Y5 ⟨rfl, b5⟩
          have T5 := Lib.hid (T4.out.trans (b5.mono T4.out.size))
          clear b5 k0 k1 k2 HB
          have t2 : decide (m2 < m1) = false := by rw [decide_eq_false_iff_not]; omega
          have t3 : (m2 == 0) = false := by rw [beq_eq_false_iff_ne]; omega
          go_wp2
          go_meet
          case rel => exact T5
    case rest =>
      clear HLA HBD k0 k1 k2
      have TB := Lib.hid (T3.out.trans (hcut.out.mono T3.out.size))
      clear hcut T3 K3 R3
      have HCode6 := Lib.hid (HC.out.below TB.out)
      go_wp2_with fail
      refine (DrawPassesBy_any a len cap _ HCode6.out).mono ?_
      rintro e X6 ⟨L6, S6, v6, l6, p6, q6, rfl, hL6, hS6, hl6, o6, hp6, hq6, b6⟩
      obtain ⟨va6, vc6, rfl⟩ := (Rs.of_own o6).shape
      have KA6 := Lib.hid (blk_new3 X6 (.int .i64 L6) (.int .i64 S6) (.slice va6 l6.length vc6) 26)
      have RA6 := Lib.hid ((Rd.of_own o6).below ((Below.refl X6.heap.size X6).alloc (Nat.le_refl _) (.cells #[.int .i64 L6, .int .i64 S6, .slice va6 l6.length vc6] 26)) rfl)
      have TA6 := Lib.hid (have hT := TB.out.trans (b6.mono TB.out.size); hT.alloc hT.size (.cells #[.int .i64 L6, .int .i64 S6, .slice va6 l6.length vc6] 26))
      have hln6 : l6.length ≤ 1048576 := by omega
      clear o6 b6 HCode6
      obtain ⟨k0, k1, k2⟩ := blk_cell3 KA6.out
      have HWp6 := Lib.hid (WalkArith.wf_i64 (n := p6) (by omega))
      have HWq6 := Lib.hid (WalkArith.wf_i64 (n := q6) (by omega))
      go_wp2_with fail
      refine (implPassesBy_c L6 S6 (.slice va6 l6.length vc6) l6 p6 q6 _ RA6.out hln6 HWp6.out HWq6.out).mono ?_
      rintro e Y7 ⟨rfl, b7⟩
      have K7 := Lib.hid (blk_kept KA6.out b7)
      have R7 := Lib.hid (RA6.out.below b7 rfl)
      have T7 := Lib.hid (TA6.out.trans (b7.mono TA6.out.size))
      clear b7 k0 k1 k2 KA6 RA6 TA6
      obtain ⟨k0, k1, k2⟩ := blk_cell3 K7.out
      go_wp2_with fail
      refine (specPassesBy_c L6 S6 (.slice va6 l6.length vc6) l6 p6 q6 _ R7.out hln6 HWp6.out HWq6.out).mono ?_
      rintro e Y8 ⟨rfl, b8⟩
      have K8 := Lib.hid (blk_kept K7.out b8)
      have R8 := Lib.hid (R7.out.below b8 rfl)
      have T8 := Lib.hid (T7.out.trans (b8.mono T7.out.size))
      clear b8 k0 k1 k2 K7 R7 T7
      obtain ⟨k0, k1, k2⟩ := blk_cell3 K8.out
      generalize pbR L6 S6 l6 p6 q6 = m6 at *
      generalize cpOk L6 S6 l6 p6 q6 = ok6 at *
      clear k0 k1 k2 K8 R8
      have HCode9 := Lib.hid (HC.out.below T8.out)
      go_wp2_with fail
      refine (DrawPlacesAt_any a len cap _ HCode9.out).mono ?_
      rintro e X9 ⟨L9, S9, v9, l9, q9, rfl, hL9, hS9, hl9, o9, hq9, b9⟩
      obtain ⟨va9, vc9, rfl⟩ := (Rs.of_own o9).shape
      have KA9 := Lib.hid (blk_new3 X9 (.int .i64 L9) (.int .i64 S9) (.slice va9 l9.length vc9) 26)
      have RA9 := Lib.hid ((Rd.of_own o9).below ((Below.refl X9.heap.size X9).alloc (Nat.le_refl _) (.cells #[.int .i64 L9, .int .i64 S9, .slice va9 l9.length vc9] 26)) rfl)
      have TA9 := Lib.hid (have hT := T8.out.trans (b9.mono T8.out.size); hT.alloc hT.size (.cells #[.int .i64 L9, .int .i64 S9, .slice va9 l9.length vc9] 26))
      have hln9 : l9.length ≤ 1048576 := by omega
      clear o9 b9 HCode9
      obtain ⟨k0, k1, k2⟩ := blk_cell3 KA9.out
      have HWq9 := Lib.hid (WalkArith.wf_i64 (n := q9) (by omega))
      go_wp2_with fail
      refine (implPlacesAt_c L9 S9 q9 (.slice va9 l9.length vc9) l9 _ RA9.out hln9 HWq9.out).mono ?_
      rintro e Y10 ⟨g10, rfl, o10, b10⟩
      obtain ⟨pa, pc, rfl⟩ := (Rs.of_own o10).shape
      have G10 := Lib.hid (Rd.of_own o10)
      have K10 := Lib.hid (blk_kept KA9.out b10)
      have R10 := Lib.hid (RA9.out.below b10 rfl)
      have T10 := Lib.hid (TA9.out.trans (b10.mono TA9.out.size))
      clear o10 b10 k0 k1 k2 KA9 RA9 TA9
      obtain ⟨k0, k1, k2⟩ := blk_cell3 K10.out
      go_wp2_with fail
      refine (specPlacesAt_c L9 S9 q9 (.slice va9 l9.length vc9) l9 _ R10.out hln9 HWq9.out).mono ?_
      rintro e Y11 ⟨g11, rfl, o11, b11⟩
      obtain ⟨wa, wc, rfl⟩ := (Rs.of_own o11).shape
      have G11 := Lib.hid (Rd.of_own o11)
      have K11 := Lib.hid (blk_kept K10.out b11)
      have R11 := Lib.hid (R10.out.below b11 rfl)
      have T11 := Lib.hid (T10.out.trans (b11.mono T10.out.size))
      have A11 := Lib.hid (G10.out.below b11 rfl)
      clear o11 b11 k0 k1 k2 K10 R10 T10
      obtain ⟨k0, k1, k2⟩ := blk_cell3 K11.out
      clear G10
      have HPF := Lib.hid (fun h => pl_facts (L := L9) (S := S9) (l := l9) (T := q9) h)
      have HG := Lib.hid (fun W h => implGapsOf_c L9 S9 (.slice va9 l9.length vc9) l9 W h hln9)
      generalize plR L9 S9 l9 q9 = pl at *
      generalize gpR L9 S9 l9 = gp at *
      generalize plOk L9 S9 l9 q9 = ok9 at *
      generalize cirV L9 S9 l9 = cv at *
      go_wp2_with fail
      refine (vInts_c _ _ pl _ A11.out G11.out).mono ?_
      rintro e Y12 ⟨rfl, b12⟩
      have A12 := Lib.hid (A11.out.below b12 rfl)
      have K12 := Lib.hid (blk_kept K11.out b12)
      have R12 := Lib.hid (R11.out.below b12 rfl)
      have T12 := Lib.hid (T11.out.trans (b12.mono T11.out.size))
      clear b12 k0 k1 k2 K11 R11 T11 A11 G11
      obtain ⟨k0, k1, k2⟩ := blk_cell3 K12.out
      go_upto_if 162 with fail
      go_cut [] from 29 (fun wx => Hid (Below Y12.heap.size Y12 wx))
      case first =>
        as_aux_lemma =>
        cases ok9 with
        | false =>
          go_wp2
          go_meet
          case rel => exact Lib.hid (Below.refl _ _)
        | true =>
          obtain ⟨hpn, hgn, hcv, hLL, hpb, hgb, hgap⟩ := HPF.out rfl
          rw [← hpn] at hgn hpb hgb hgap
          have hp9 : pl.length ≤ 9 := by omega
          rw [hcv, hgn] at HG
          clear hpn HPF hcv
          obtain ⟨ao, pb, po, pcc, hve, hpo, hpa⟩ := A12.out.form8
          simp only [Value.slice.injEq] at hve
          obtain ⟨rfl, _, rfl⟩ := hve
          have HPO := Lib.hid hpo
          have HPA := Lib.hid hpa
          clear hpo hpa A12
          have hY := Lib.hid (Below.refl Y12.heap.size Y12)
          go_wp2_with fail
          refine (HG.out _ R12.out).mono ?_
          rintro e Y13 ⟨g13, rfl, o13, b13⟩
          obtain ⟨ga, gc, rfl⟩ := (Rs.of_own o13).shape
          obtain ⟨ag, gb, gof, gcc, hve, hgo, hga⟩ := (Rd.of_own o13).form8
          rw [hgn] at hve hgo
          simp only [Value.slice.injEq] at hve
          obtain ⟨rfl, _, rfl⟩ := hve
          have HGO := Lib.hid hgo
          have HGA := Lib.hid hga
          have K13 := Lib.hid (blk_kept K12.out b13)
          have T13 := Lib.hid (hY.out.trans (b13.mono hY.out.size))
          have HPA13 : Hid (0 < pl.length → IntAt Y13 pb po pl) := Lib.hid (fun h => HPA.out.below b13 (HPO.out h).2.1)
          have HPB := Lib.hid hpb
          have HGB := Lib.hid hgb
          have HGAP := Lib.hid hgap
          have HGN := Lib.hid hgn
          clear o13 b13 k0 k1 k2 hY hgo hga HPA hpb hgb hgap hgn HG K12 R12
          go_wp2
          go_loopw [32, 33] (fun i wy wr => ∃ k m : Nat, k ≤ pl.length ∧ i = .int .i64 (k : Int) ∧ wr = Y13.drewN m) (fun i _ _ => pl.length - (intOf i).toNat)
          case atStart => exact ⟨0, 0, by omega, rfl, rfl⟩
          case round =>
            obtain ⟨k, m, hk, rfl, hwr⟩ := hrel
            have HWR := Lib.hid hwr
            by_cases hlt : k < pl.length
            · obtain ⟨rfl, _, _⟩ := HPO.out (by omega)
              obtain ⟨rfl, _, _⟩ := HGO.out (by omega)
              have hj := Nat.mod_lt (k + 1) (show 0 < pl.length by omega)
              obtain ⟨k0, _, _⟩ := blk_cell3 K13.out
              have c0 : wr.cell? ⟨X9.heap.size, 0, none⟩ = some (.int .i64 L9) := by rw [hwr]; exact k0
              have c1 : wr.cell? ⟨pb, po + (k + 1) % pl.length, none⟩ = some (.int .i64 (pl.getD ((k + 1) % pl.length) 0)) := by rw [hwr]; exact HPA13.out (by omega) _ hj
              have c2 : wr.cell? ⟨pb, po + k, none⟩ = some (.int .i64 (pl.getD k 0)) := by rw [hwr]; exact HPA13.out (by omega) _ hlt
              have c3 : wr.cell? ⟨gb, gof + k, none⟩ = some (.int .i64 (gp.getD k 0)) := by rw [hwr]; exact HGA.out _ (by rw [HGN.out]; exact hlt)
              have b1 := HPB.out _ hj
              have b2 := HPB.out _ hlt
              have b3 := HGB.out _ hlt
              have HGP := Lib.hid (HGAP.out k hlt)
              have hjn : Int.tmod ((k : Int) + 1) (pl.length : Int) = (((k + 1) % pl.length : Nat) : Int) := by rw [Int.tmod_eq_emod_of_nonneg (by omega)]; simp
              clear hwr k0
              generalize (k + 1) % pl.length = j at *
              generalize pl.getD j 0 = x at *
              generalize pl.getD k 0 = y at *
              generalize gp.getD k 0 = z at *
              obtain ⟨M, hM⟩ : ∃ M, M = 10 * L9 := ⟨_, rfl⟩
              rw [← hM] at b1 b2 HGP
              obtain ⟨V, hV⟩ : ∃ V, V = (x - y + M) % M := ⟨_, rfl⟩
              have hVb : 0 ≤ V ∧ V < M := by rw [hV]; exact ⟨Int.emod_nonneg _ (by omega), Int.emod_lt_of_pos _ (by omega)⟩
              have s1 : IntKind.i64.wrap ((k : Int) + 1) = (k : Int) + 1 := IntWalk.i64_in _ (by omega)
              have s2 : IntKind.i64.wrap (j : Int) = (j : Int) := IntWalk.i64_in _ (by omega)
              have s4 : ((pl.length : Int) == 0) = false := by rw [beq_eq_false_iff_ne]; omega
              have s5 : ¬ ((pl.length : Int) = 0) := by omega
              have s6 : (pl.length == 0) = false := by rw [beq_eq_false_iff_ne]; omega
              have s7 : ¬ (pl.length = 0) := by omega
              have d1 : IntKind.i64.wrap (x - y) = x - y := IntWalk.i64_in _ (by omega)
              have d2 : IntKind.i64.wrap (10 * L9) = M := by rw [← hM]; exact IntWalk.i64_in _ (by omega)
              have d3 : IntKind.i64.wrap (x - y + M) = x - y + M := IntWalk.i64_in _ (by omega)
              have d4 : Int.tmod (x - y + M) M = V := by rw [hV, Int.tmod_eq_emod_of_nonneg (by omega)]
              have d5 : IntKind.i64.wrap V = V := IntWalk.i64_in _ (by omega)
              have d6 : (M == 0) = false := by rw [beq_eq_false_iff_ne]; omega
              have d7 : ¬ (M = 0) := by omega
              have d8 : IntKind.i64.wrap (10 * z) = 10 * z := IntWalk.i64_in _ (by omega)
              have hjl : (j : Int) < (pl.length : Int) := by omega
              have hj0 : (0 : Int) ≤ (j : Int) := by omega
              have hkl : (k : Int) < (pl.length : Int) := by omega
              rw [← hV] at HGP
              clear hV hM
              by_cases h1 : 1 < pl.length
              · have hz := HGP.out h1
                have t5 : decide ((1 : Int) < (pl.length : Int)) = true := by simp; omega
                subst hz
                go_wp2_with fail
                go_quiet (fail)
                go_wp2
                go_roundw
                case rel => exact ⟨k + 1, m + nq, by omega, by go_num, by rw [HWR.out, World.drewN_drewN]⟩
                case measure => simp [intOf]; omega
              · have t5 : decide ((1 : Int) < (pl.length : Int)) = false := by simp; omega
                go_wp2_with fail
                go_quiet (fail)
                go_wp2
                go_roundw
                case rel => exact ⟨k + 1, m + nq, by omega, by go_num, by rw [HWR.out, World.drewN_drewN]⟩
                case measure => simp [intOf]; omega
            · have t4 : decide ((k : Int) < (pl.length : Int)) = false := by simp; omega
              go_wp2
              go_meet
              case rel => exact Lib.hid (below_drewN T13.out m)
      case rest =>
        clear HPF HG k0 k1 k2 A12
        have TC := Lib.hid (T12.out.trans (hcut.out.mono T12.out.size))
        clear hcut T12 K12 R12
        have HCode20 := Lib.hid (HC.out.below TC.out)
        go_wp2_with fail
        refine (DrawRoundTime_any a len cap _ HCode20.out).mono ?_
        rintro e X20 ⟨L20, S20, v20, l20, rfl, hL20, hS20, hl20, o20, b20⟩
        obtain ⟨va20, vc20, rfl⟩ := (Rs.of_own o20).shape
        have KA20 := Lib.hid (blk_new3 X20 (.int .i64 L20) (.int .i64 S20) (.slice va20 l20.length vc20) 26)
        have RA20 := Lib.hid ((Rd.of_own o20).below ((Below.refl X20.heap.size X20).alloc (Nat.le_refl _) (.cells #[.int .i64 L20, .int .i64 S20, .slice va20 l20.length vc20] 26)) rfl)
        have TA20 := Lib.hid (have hT := TC.out.trans (b20.mono TC.out.size); hT.alloc hT.size (.cells #[.int .i64 L20, .int .i64 S20, .slice va20 l20.length vc20] 26))
        have hln20 : l20.length ≤ 1048576 := by omega
        clear o20 b20 HCode20
        obtain ⟨k0, k1, k2⟩ := blk_cell3 KA20.out
        go_wp2_with fail
        refine (implRoundTime_c L20 S20 (.slice va20 l20.length vc20) l20 _ RA20.out hln20).mono ?_
        rintro e Y21 ⟨rfl, b21⟩
        have K21 := Lib.hid (blk_kept KA20.out b21)
        have R21 := Lib.hid (RA20.out.below b21 rfl)
        have T21 := Lib.hid (TA20.out.trans (b21.mono TA20.out.size))
        clear b21 k0 k1 k2 KA20 RA20 TA20
        obtain ⟨k0, k1, k2⟩ := blk_cell3 K21.out
        go_wp2_with fail
        refine (specRoundTime_c L20 S20 (.slice va20 l20.length vc20) l20 _ R21.out hln20).mono ?_
        rintro e Y22 ⟨rfl, b22⟩
        have K22 := Lib.hid (blk_kept K21.out b22)
        have R22 := Lib.hid (R21.out.below b22 rfl)
        have T22 := Lib.hid (T21.out.trans (b22.mono T21.out.size))
        clear b22 k0 k1 k2 K21 R21 T21
        obtain ⟨k0, k1, k2⟩ := blk_cell3 K22.out
        have HRT := Lib.hid (fun h => rt_facts (L := L20) (S := S20) (l := l20) h)
        generalize rtN L20 S20 l20 = rn at *
        generalize rtD L20 S20 l20 = rd at *
        generalize cirV L20 S20 l20 = ok20 at *
        cases ok20 with
        | false =>
          go_wp2
          go_ret
          exact ⟨rfl, T22.out⟩
        | true =>
          obtain ⟨P, M, e1, e2, e3⟩ := HRT.out rfl
          clear HRT
          go_wp2
          go_ret
          exact ⟨rfl, T22.out⟩
end Go.Proofs.Ytiioabmfonhlbaa
