/- The law FnSags's walk. Condition: sizes. -/
import Derived.Test.YtmmjbdffpgohdaaDrawSags
import Derived.Test.YtmmjbdffpgohdaaSagMax
import Derived.Test.YtmmjbdffpgohdaaAft
import Derived.WalkArith
import Derived.Laws.Rows
import Derived.Deep.Heap
import Derived.Deep.CutRange
import Derived.Deep.CutBlock
import Derived.Deep.DeepCutAuto
namespace Go.Proofs.Ytmmjbdffpgohdaa
open Go.RowKit
set_option linter.unusedVariables false
theorem named6 {a w' : World} {B : Nat} (h : Hid (Below B a w')) : ∃ W : World, W = w' := ⟨_, rfl⟩
theorem blk_keep {w w' : World} {B b : Nat} {o : Obj} (h : w.heap[b]? = some o) (hb : Below B w w') (hB : b < B) : w'.heap[b]? = some o := (hb.block b hB).trans h
theorem blk_lt {w : World} {b : Nat} {o : Obj} (h : w.heap[b]? = some o) : b < w.heap.size := (Array.getElem?_eq_some_iff.1 h).1
theorem blk_stay {w : World} {b : Nat} {o o' : Obj} (h : w.heap[b]? = some o) : (w.alloc o').heap[b]? = some o :=
  (((Below.refl w.heap.size w).alloc (Nat.le_refl _) o').block b (blk_lt h)).trans h
theorem blk_kept {w w' : World} {b : Nat} {o : Obj} (h : w.heap[b]? = some o) (k : Below w.heap.size w w') : w'.heap[b]? = some o := blk_keep h k (blk_lt h)
theorem blk_new2S (w : World) (a c : Value) (t : TypeId) : (w.alloc (.cells #[a, c] t)).heap[w.heap.size]? = some (.cells #[a, c] t (0, 0)) := heap_alloc_new w _
theorem blk_cell2S {w : World} {b : Nat} {a c : Value} {t : TypeId} (h : w.heap[b]? = some (.cells #[a, c] t (0, 0))) :
    w.cell? ⟨b, 0, none⟩ = some a ∧ w.cell? ⟨b, 1, none⟩ = some c := by
  have h0 := cell_of_row w b 0 _ _ _ h
  have h1 := cell_of_row w b 1 _ _ _ h
  simp at h0 h1
  exact ⟨h0, h1⟩
theorem prodBd {x y : Int} (A B : Int) (h0 : 0 ≤ x) (h1 : x ≤ A) (h2 : 0 ≤ y) (h3 : y ≤ B) (hAB : A * B ≤ 9000000000000000000) : IntKind.i64.wrap (x * y) = x * y := by
  have := mulBd h0 h1 h2 h3
  exact IntWalk.i64_in _ (by omega)
set_option maxRecDepth 100000 in
set_option maxHeartbeats 4000000 in
theorem FnSags_walk (a : Option Addr) (len cap : Nat) (w : World) (h : ByteRow w a len) :
    Calls Try.prog 3 #[.slice a len cap] w fun e w' => e = .returned (.bool true) ∧ Below w.heap.size w w' := by
  have hm := h.1
  have HC := Lib.hid h
  clear h
  by_cases hbig : 65536 < len
  · go_enter Try.func3, Try.ntmps3
    go_wp2_with fail
    refine (vBig_yes a len cap _ hbig hm).mono ?_
    rintro e w' ⟨rfl, rfl⟩
    go_wp2_with fail
    go_ret
    exact ⟨rfl, Below.refl _ _⟩
  · go_enter Try.func3, Try.ntmps3
    go_wp2_with fail
    refine (vBig_no a len cap _ (by omega)).mono ?_
    rintro e w' ⟨rfl, rfl⟩
    have T0 := Lib.hid (Below.refl w.heap.size w)
    have HCode1 := Lib.hid (HC.out.below T0.out)
    go_wp2_with fail
    refine (DrawLoadedSag_any a len cap _ HCode1.out).mono ?_
    rintro e X1 ⟨v1, l1, r1, p1, z1, rfl, hr1, hl1, hp1, hz1, b1⟩
    clear HCode1
    have T_2 := Lib.hid (T0.out.trans (b1.mono T0.out.size))
    clear b1 T0
    have hn1 : l1.length ≤ 1048576 := by omega
    have Wp1 := Lib.hid (WalkArith.wf_i64 (n := p1) (by omega))
    have Wz1 := Lib.hid (WalkArith.wf_i64 (n := z1) (by omega))
    obtain ⟨va1, oa1, ca1, hv, hla1, hm1, hsu⟩ := hr1.sup (by omega)
    subst hv
    have Rq1_0 := Lib.hid hr1
    clear hr1 hsu
    clear hl1 hp1 hz1
    have Rq1_3 := Lib.hid (Rq1_0.out.below ((Below.refl X1.heap.size X1).alloc (Nat.le_refl _) (.cells #[.int .i64 r1.w, .int .i64 r1.p] 26)) rfl)
    have T_3 := Lib.hid (T_2.out.alloc T_2.out.size (.cells #[.int .i64 r1.w, .int .i64 r1.p] 26))
    have Kx1_3 := Lib.hid (blk_new2S X1 (.int .i64 r1.w) (.int .i64 r1.p) 26)
    clear Rq1_0 T_2
    obtain ⟨kx10, kx11⟩ := blk_cell2S Kx1_3.out
    go_wp2_with fail
    clear kx10 kx11
    generalize hW4 : X1.alloc (.cells #[.int .i64 r1.w, .int .i64 r1.p] 26) = Z4 at *
    clear hW4
    refine (implLoadedSag_c (.slice (some ⟨va1, oa1, none⟩) l1.length ca1) l1 r1 p1 z1 _ Rq1_3.out hn1 Wp1.out Wz1.out).mono ?_
    rintro e Y5 ⟨rfl, b5⟩
    have Kx1_6 := Lib.hid (blk_kept Kx1_3.out b5)
    have Rq1_6 := Lib.hid (Rq1_3.out.below b5 rfl)
    have T_6 := Lib.hid (T_3.out.trans (b5.mono T_3.out.size))
    clear b5 Kx1_3 Rq1_3 T_3
    obtain ⟨kx10, kx11⟩ := blk_cell2S Kx1_6.out
    go_wp2_with fail
    clear kx10 kx11
    refine (specLoadedSag_c (.slice (some ⟨va1, oa1, none⟩) l1.length ca1) l1 r1 p1 z1 _ Rq1_6.out hn1 Wp1.out Wz1.out).mono ?_
    rintro e Y7 ⟨rfl, b7⟩
    have Kx1_8 := Lib.hid (blk_kept Kx1_6.out b7)
    have Rq1_8 := Lib.hid (Rq1_6.out.below b7 rfl)
    have T_8 := Lib.hid (T_6.out.trans (b7.mono T_6.out.size))
    clear b7 Kx1_6 Rq1_6 T_6
    have HK := Lib.hid (fun h => ld_keeps (l := l1) (r := r1) (p := p1) (q := z1) h)
    obtain ⟨kx10, kx11⟩ := blk_cell2S Kx1_8.out
    go_wp2_with fail
    clear kx10 kx11
    generalize ldN l1 r1 p1 z1 = nA at *
    generalize ldD l1 r1 p1 z1 = dA at *
    generalize ldOk l1 r1 p1 z1 = ok at *
    obtain ⟨kx10, kx11⟩ := blk_cell2S Kx1_8.out
    have q0 : ∀ x : Aft Y7, x.w.cell? ⟨X1.heap.size, 0, none⟩ = some (.int .i64 r1.w) := fun x => x.cell kx10
    have q1 : ∀ x : Aft Y7, x.w.cell? ⟨X1.heap.size, 1, none⟩ = some (.int .i64 r1.p) := fun x => x.cell kx11
    clear kx10 kx11
    have HI := Lib.hid (fun x : Aft Y7 => implIsRope_c r1 x.w)
    have HJ := Lib.hid (fun x : Aft Y7 => specIsRope_c r1 x.w)
    generalize isR r1 = rr at *
    refine wp_region_aft (w0 := Y7) (by kernel_rfl) (by kernel_rfl) (Below.refl _ _) ?_
    repeat (go_big_quiet_step (first | (go_at_call 10; exact aft_of (HI.out _)) | (go_at_call 11; exact aft_of (HJ.out _)) | fail))
    refine wpQuiet_nil ?_
    rintro Y60 ⟨⟨_, b60⟩, rfl⟩
    try simp only []
    clear q0 q1 HI HJ
    have Kx1_9 := Lib.hid (blk_kept Kx1_8.out b60)
    have Rq1_9 := Lib.hid (Rq1_8.out.below b60 rfl)
    have T_9 := Lib.hid (T_8.out.trans (b60.mono T_8.out.size))
    clear b60 Kx1_8 Rq1_8 T_8
    obtain ⟨kx10, kx11⟩ := blk_cell2S Kx1_9.out
    go_upto_if 106 with fail
    clear kx10 kx11
    go_cut [] from 13 (fun wx => Hid (Below Y60.heap.size Y60 wx))
    case first =>
      as_aux_lemma =>
      cases ok with
      | false =>
        go_wp2
        go_meet
        case rel => exact Lib.hid (Below.refl _ _)
      | true =>
        have hY := Lib.hid (Below.refl Y60.heap.size Y60)
        clear T_9
        obtain ⟨hs, hz, e1, e2, hA, hB, hAB⟩ := HK.out rfl
        clear HK
        obtain ⟨hC, hD⟩ := (sg_terms hs).2.2.2.2
        have hq := Lib.hid (fun h => sg_pull hs h)
        obtain ⟨g1, g2, g3, g4, g5, g6⟩ := gs_keeps hs
        obtain ⟨hE, hF⟩ := (sg_terms g2).2.2.2.2
        rw [g3] at hE
        rw [g4] at hF
        have HA := Lib.hid (fun W h => implSagAt_c (.slice (some ⟨va1, oa1, none⟩) l1.length ca1) l1 r1 p1 W h hn1 Wp1.out)
        have HZ := Lib.hid (fun W h => implLoadedSag_c (.slice (some ⟨va1, oa1, none⟩) l1.length ca1) l1 r1 p1 0 W h hn1 Wp1.out (WalkArith.wf_i64 (n := 0) (by omega)))
        have HG := Lib.hid (fun W h => implGreatestSag_c (.slice (some ⟨va1, oa1, none⟩) l1.length ca1) l1 r1 W h hn1)
        have HS := Lib.hid (fun W h => implSagAt_c (.slice (some ⟨va1, oa1, none⟩) l1.length ca1) l1 r1 (gsP l1 r1) W h hn1 (WalkArith.wf_i64 (n := gsP l1 r1) (by omega)))
        rw [hs] at HA
        rw [hz, e1, e2] at HZ
        rw [g1] at HG
        rw [g2, g3, g4] at HS
        have HP := Lib.hid (fun (hlt : r1.p < 100000) W h => by
          have c := implSagAt_c (.slice (some ⟨va1, oa1, none⟩) l1.length ca1) l1 ⟨r1.w, r1.p + 1⟩ p1 W h hn1 Wp1.out
          rw [(sg_pull hs hlt).1] at c
          exact c)
        have HPB := Lib.hid (fun (hlt : r1.p < 100000) => (sg_terms (sg_pull hs hlt).1).2.2.2.2)
        have HQ := Lib.hid (fun (hlt : r1.p < 100000) => (sg_pull hs hlt).2)
        have hrp := (sgOk_yes hs).2.2
        clear hq hs hz e1 e2 g1 g2 g3 g4
        generalize sgN l1 ⟨r1.w, r1.p + 1⟩ p1 = nP at *
        generalize sgD l1 ⟨r1.w, r1.p + 1⟩ p1 = dP at *
        generalize sgN l1 r1 p1 = nB at *
        generalize sgD l1 r1 p1 = dB at *
        generalize gsP l1 r1 = pG at *
        generalize gsN l1 r1 = nG at *
        generalize gsD l1 r1 = dG at *
        have y1 := prodBd 1800000000 600000000 hC.1 hC.2 (show 0 ≤ dA by omega) hB.2 (by omega)
        have y2 := prodBd 5800000000000 200000 hA.1 hA.2 (show 0 ≤ dB by omega) hD.2 (by omega)
        have y3 : decide (nA * dB < nB * dA) = false := decide_eq_false (by omega)
        have y4 := prodBd 1800000000 200000 hC.1 hC.2 (show 0 ≤ dG by omega) hF.2 (by omega)
        have y5 := prodBd 1800000000 200000 hE.1 hE.2 (show 0 ≤ dB by omega) hD.2 (by omega)
        have y6 : decide (nG * dB < nB * dG) = false := decide_eq_false (by omega)
        clear hAB g5 hA hB hE hF
        obtain ⟨kx10, kx11⟩ := blk_cell2S Kx1_9.out
        go_wp2_with fail
        clear kx10 kx11
        refine (HA.out _ Rq1_9.out).mono ?_
        rintro e Y10 ⟨rfl, b10⟩
        have Kx1_11 := Lib.hid (blk_kept Kx1_9.out b10)
        have Rq1_11 := Lib.hid (Rq1_9.out.below b10 rfl)
        have T_11 := Lib.hid (hY.out.trans (b10.mono hY.out.size))
        clear b10 Kx1_9 Rq1_9 hY
        clear HA
        obtain ⟨kx10, kx11⟩ := blk_cell2S Kx1_11.out
        go_wp2_with fail
        clear kx10 kx11
        refine (HZ.out _ Rq1_11.out).mono ?_
        rintro e Y12 ⟨rfl, b12⟩
        have Kx1_13 := Lib.hid (blk_kept Kx1_11.out b12)
        have Rq1_13 := Lib.hid (Rq1_11.out.below b12 rfl)
        have T_13 := Lib.hid (T_11.out.trans (b12.mono T_11.out.size))
        clear b12 Kx1_11 Rq1_11 T_11
        clear HZ
        by_cases hlt : r1.p < 100000
        · skip
          have hltd : decide (r1.p < 100000) = true := decide_eq_true hlt
          have HP' := Lib.hid (HP.out hlt)
          have hpb := HPB.out hlt
          have hq := HQ.out hlt
          clear HP HPB HQ
          have y7 := prodBd 1800000000 200000 hpb.1.1 hpb.1.2 (show 0 ≤ dB by omega) hD.2 (by omega)
          have y8 := prodBd 1800000000 200000 hC.1 hC.2 (show 0 ≤ dP by omega) hpb.2.2 (by omega)
          have y9 : decide (nB * dP < nP * dB) = false := decide_eq_false (by omega)
          have y0 : IntKind.i64.wrap (r1.p + 1) = r1.p + 1 := IntWalk.i64_in _ (by omega)
          clear hpb hq hC hD hrp hlt
          obtain ⟨ox0, ox1⟩ := blk_cell2S Kx1_13.out
          have Kx1_14 := Lib.hid (blk_stay (o' := .cells #[.int .i64 r1.w, .int .i64 (r1.p + 1)] 26) Kx1_13.out)
          have Rq1_14 := Lib.hid (Rq1_13.out.below ((Below.refl Y12.heap.size Y12).alloc (Nat.le_refl _) (.cells #[.int .i64 r1.w, .int .i64 (r1.p + 1)] 26)) rfl)
          have T_14 := Lib.hid (T_13.out.alloc T_13.out.size (.cells #[.int .i64 r1.w, .int .i64 (r1.p + 1)] 26))
          have Kx9_14 := Lib.hid (blk_new2S Y12 (.int .i64 r1.w) (.int .i64 (r1.p + 1)) 26)
          clear Kx1_13 Rq1_13 T_13
          obtain ⟨kx10, kx11⟩ := blk_cell2S Kx1_14.out
          obtain ⟨kx90, kx91⟩ := blk_cell2S Kx9_14.out
          go_wp2_with fail
          clear kx10 kx11 kx90 kx91
          generalize hW15 : Y12.alloc (.cells #[.int .i64 r1.w, .int .i64 (r1.p + 1)] 26) = Z15 at *
          clear hW15
          refine (HP'.out _ Rq1_14.out).mono ?_
          rintro e Y16 ⟨rfl, b16⟩
          have Kx1_17 := Lib.hid (blk_kept Kx1_14.out b16)
          have Kx9_17 := Lib.hid (blk_kept Kx9_14.out b16)
          have Rq1_17 := Lib.hid (Rq1_14.out.below b16 rfl)
          have T_17 := Lib.hid (T_14.out.trans (b16.mono T_14.out.size))
          clear b16 Kx1_14 Kx9_14 Rq1_14 T_14
          clear HP' ox0 ox1
          clear Kx9_17
          obtain ⟨kx10, kx11⟩ := blk_cell2S Kx1_17.out
          go_wp2_with fail
          clear kx10 kx11
          refine (HG.out _ Rq1_17.out).mono ?_
          rintro e Y18 ⟨rfl, b18⟩
          have Kx1_19 := Lib.hid (blk_kept Kx1_17.out b18)
          have Rq1_19 := Lib.hid (Rq1_17.out.below b18 rfl)
          have T_19 := Lib.hid (T_17.out.trans (b18.mono T_17.out.size))
          clear b18 Kx1_17 Rq1_17 T_17
          clear HG
          obtain ⟨kx10, kx11⟩ := blk_cell2S Kx1_19.out
          go_wp2_with fail
          clear kx10 kx11
          refine (HS.out _ Rq1_19.out).mono ?_
          rintro e Y20 ⟨rfl, b20⟩
          have Kx1_21 := Lib.hid (blk_kept Kx1_19.out b20)
          have Rq1_21 := Lib.hid (Rq1_19.out.below b20 rfl)
          have T_21 := Lib.hid (T_19.out.trans (b20.mono T_19.out.size))
          clear b20 Kx1_19 Rq1_19 T_19
          clear HS
          go_wp2
          go_meet
          case rel => exact T_21
        · skip
          have hltd : decide (r1.p < 100000) = false := decide_eq_false hlt
          clear HP HPB HQ hC hD hrp hlt
          obtain ⟨kx10, kx11⟩ := blk_cell2S Kx1_13.out
          go_wp2_with fail
          clear kx10 kx11
          refine (HG.out _ Rq1_13.out).mono ?_
          rintro e Y14 ⟨rfl, b14⟩
          have Kx1_15 := Lib.hid (blk_kept Kx1_13.out b14)
          have Rq1_15 := Lib.hid (Rq1_13.out.below b14 rfl)
          have T_15 := Lib.hid (T_13.out.trans (b14.mono T_13.out.size))
          clear b14 Kx1_13 Rq1_13 T_13
          clear HG
          obtain ⟨kx10, kx11⟩ := blk_cell2S Kx1_15.out
          go_wp2_with fail
          clear kx10 kx11
          refine (HS.out _ Rq1_15.out).mono ?_
          rintro e Y16 ⟨rfl, b16⟩
          have Kx1_17 := Lib.hid (blk_kept Kx1_15.out b16)
          have Rq1_17 := Lib.hid (Rq1_15.out.below b16 rfl)
          have T_17 := Lib.hid (T_15.out.trans (b16.mono T_15.out.size))
          clear b16 Kx1_15 Rq1_15 T_15
          clear HS
          go_wp2
          go_meet
          case rel => exact T_17
    case rest =>
      obtain ⟨wx, hwx⟩ := named6 hcut
      subst hwx
      have b71 := hcut.out
      clear hcut HK
      clear Kx1_9 Rq1_9
      have T_10 := Lib.hid (T_9.out.trans (b71.mono T_9.out.size))
      clear b71 T_9
      have HCode11 := Lib.hid (HC.out.below T_10.out)
      go_wp2_with fail
      refine (DrawPullFor_any a len cap _ HCode11.out).mono ?_
      rintro e X11 ⟨v2, l2, t2, p2, s2, rfl, hr2, hl2, ht2, hp2, hs2, b11⟩
      clear HCode11
      have T_12 := Lib.hid (T_10.out.trans (b11.mono T_10.out.size))
      clear b11 T_10
      have hn2 : l2.length ≤ 1048576 := by omega
      have Wt2 := Lib.hid (WalkArith.wf_i64 (n := t2) (by omega))
      have Wp2 := Lib.hid (WalkArith.wf_i64 (n := p2) (by omega))
      have Ws2 := Lib.hid (WalkArith.wf_i64 (n := s2) (by omega))
      obtain ⟨va2, oa2, ca2, hv, hla2, hm2, hsu⟩ := hr2.sup (by omega)
      subst hv
      have Rq2_0 := Lib.hid hr2
      clear hr2 hsu
      clear hl2 ht2 hp2
      go_wp2_with fail
      refine (implPullFor_c (.slice (some ⟨va2, oa2, none⟩) l2.length ca2) l2 t2 p2 s2 _ Rq2_0.out hn2 Wt2.out Wp2.out Ws2.out).mono ?_
      rintro e Y13 ⟨rfl, b13⟩
      have Rq2_14 := Lib.hid (Rq2_0.out.below b13 rfl)
      have T_14 := Lib.hid (T_12.out.trans (b13.mono T_12.out.size))
      clear b13 Rq2_0 T_12
      go_wp2_with fail
      refine (specPullFor_c (.slice (some ⟨va2, oa2, none⟩) l2.length ca2) l2 t2 p2 s2 _ Rq2_14.out hn2 Wt2.out Wp2.out Ws2.out).mono ?_
      rintro e Y15 ⟨rfl, b15⟩
      have Rq2_16 := Lib.hid (Rq2_14.out.below b15 rfl)
      have T_16 := Lib.hid (T_14.out.trans (b15.mono T_14.out.size))
      clear b15 Rq2_14 T_14
      have HK := Lib.hid (fun h => pf_keeps (l := l2) (wt := t2) (p := p2) (sg := s2) h)
      generalize pfV l2 t2 p2 s2 = pv at *
      generalize pfOk l2 t2 p2 s2 = told at *
      go_upto_if 246 with fail
      go_cut [] from 38 (fun wy => Hid (Below Y15.heap.size Y15 wy))
      case first =>
        as_aux_lemma =>
        cases told with
        | false =>
          go_wp2
          go_meet
          case rel => exact Lib.hid (Below.refl _ _)
        | true =>
          have hY := Lib.hid (Below.refl Y15.heap.size Y15)
          clear T_16
          obtain ⟨hsg, hpv, a1, a2, a3⟩ := HK.out rfl
          clear HK hs2
          obtain ⟨hC, hD⟩ := (sg_terms a1).2.2.2.2
          have HB2 := Lib.hid (fun h => (sg_terms (l := l2) (r := ⟨t2, pv - 1⟩) (p := p2) h).2.2.2.2)
          have HA := Lib.hid (fun W h => implSagAt_c (.slice (some ⟨va2, oa2, none⟩) l2.length ca2) l2 ⟨t2, pv⟩ p2 W h hn2 Wp2.out)
          have HB := Lib.hid (fun W h => implSagAt_c (.slice (some ⟨va2, oa2, none⟩) l2.length ca2) l2 ⟨t2, pv - 1⟩ p2 W h hn2 Wp2.out)
          rw [a1] at HA
          have H3 := Lib.hid a3
          clear a1 a3
          generalize sgN l2 ⟨t2, pv - 1⟩ p2 = n2 at *
          generalize sgD l2 ⟨t2, pv - 1⟩ p2 = d2 at *
          generalize sgOk l2 ⟨t2, pv - 1⟩ p2 = ok2 at *
          generalize sgN l2 ⟨t2, pv⟩ p2 = n1 at *
          generalize sgD l2 ⟨t2, pv⟩ p2 = d1 at *
          have y0 : IntKind.i64.wrap (pv - 1) = pv - 1 := IntWalk.i64_in _ (by omega)
          have y1 := prodBd 100 200000 hsg.1 hsg.2 (show 0 ≤ d1 by omega) hD.2 (by omega)
          have y2 : decide (s2 * d1 < n1) = false := decide_eq_false (by omega)
          clear a2 hC hD hpv
          go_wp2_with fail
          refine (HA.out _ Rq2_16.out).mono ?_
          rintro e Y17 ⟨rfl, b17⟩
          have Rq2_18 := Lib.hid (Rq2_16.out.below b17 rfl)
          have T_18 := Lib.hid (hY.out.trans (b17.mono hY.out.size))
          clear b17 Rq2_16 hY
          clear HA
          go_wp2_with fail
          refine (HB.out _ Rq2_18.out).mono ?_
          rintro e Y19 ⟨rfl, b19⟩
          have Rq2_20 := Lib.hid (Rq2_18.out.below b19 rfl)
          have T_20 := Lib.hid (T_18.out.trans (b19.mono T_18.out.size))
          clear b19 Rq2_18 T_18
          clear HB
          cases ok2 with
          | false =>
            go_wp2
            go_meet
            case rel => exact T_20
          | true =>
            have hb := HB2.out rfl
            have h3 := H3.out rfl
            have y4 := prodBd 100 200000 hsg.1 hsg.2 (show 0 ≤ d2 by omega) hb.2.2 (by omega)
            have y5 : decide (n2 ≤ s2 * d2) = false := decide_eq_false (by omega)
            clear HB2 H3 hb h3 hsg
            go_wp2
            go_meet
            case rel => exact T_20
      case rest =>
        obtain ⟨wy, hwy⟩ := named6 hcut
        subst hwy
        have b72 := hcut.out
        clear hcut HK hs2
        clear Rq2_16
        have T_17 := Lib.hid (T_16.out.trans (b72.mono T_16.out.size))
        clear b72 T_16
        have HCode18 := Lib.hid (HC.out.below T_17.out)
        go_wp2_with fail
        refine (DrawSagAt_any a len cap _ HCode18.out).mono ?_
        rintro e X18 ⟨v3, l3, r3, p3, rfl, hr3, hl3, hp3, b18⟩
        clear HCode18
        have T_19 := Lib.hid (T_17.out.trans (b18.mono T_17.out.size))
        clear b18 T_17
        have hn3 : l3.length ≤ 1048576 := by omega
        have Wp3 := Lib.hid (WalkArith.wf_i64 (n := p3) (by omega))
        obtain ⟨va3, oa3, ca3, hv, hla3, hm3, hsu⟩ := hr3.sup (by omega)
        subst hv
        have Rq3_0 := Lib.hid hr3
        clear hr3 hsu
        clear hl3 hp3
        have Rq3_20 := Lib.hid (Rq3_0.out.below ((Below.refl X18.heap.size X18).alloc (Nat.le_refl _) (.cells #[.int .i64 r3.w, .int .i64 r3.p] 26)) rfl)
        have T_20 := Lib.hid (T_19.out.alloc T_19.out.size (.cells #[.int .i64 r3.w, .int .i64 r3.p] 26))
        have Kx3_20 := Lib.hid (blk_new2S X18 (.int .i64 r3.w) (.int .i64 r3.p) 26)
        clear Rq3_0 T_19
        obtain ⟨kx30, kx31⟩ := blk_cell2S Kx3_20.out
        go_wp2_with fail
        clear kx30 kx31
        generalize hW21 : X18.alloc (.cells #[.int .i64 r3.w, .int .i64 r3.p] 26) = Z21 at *
        clear hW21
        refine (implSagAt_c (.slice (some ⟨va3, oa3, none⟩) l3.length ca3) l3 r3 p3 _ Rq3_20.out hn3 Wp3.out).mono ?_
        rintro e Y22 ⟨rfl, b22⟩
        have Kx3_23 := Lib.hid (blk_kept Kx3_20.out b22)
        have Rq3_23 := Lib.hid (Rq3_20.out.below b22 rfl)
        have T_23 := Lib.hid (T_20.out.trans (b22.mono T_20.out.size))
        clear b22 Kx3_20 Rq3_20 T_20
        obtain ⟨kx30, kx31⟩ := blk_cell2S Kx3_23.out
        go_wp2_with fail
        clear kx30 kx31
        refine (specSagAt_c (.slice (some ⟨va3, oa3, none⟩) l3.length ca3) l3 r3 p3 _ Rq3_23.out hn3 Wp3.out).mono ?_
        rintro e Y24 ⟨rfl, b24⟩
        have Kx3_25 := Lib.hid (blk_kept Kx3_23.out b24)
        have Rq3_25 := Lib.hid (Rq3_23.out.below b24 rfl)
        have T_25 := Lib.hid (T_23.out.trans (b24.mono T_23.out.size))
        clear b24 Kx3_23 Rq3_23 T_23
        generalize sgN l3 r3 p3 = n3 at *
        generalize sgD l3 r3 p3 = d3 at *
        generalize sgOk l3 r3 p3 = k3 at *
        clear Kx3_25 Rq3_25
        have HCode26 := Lib.hid (HC.out.below T_25.out)
        go_wp2_with fail
        refine (DrawGreatestSag_any a len cap _ HCode26.out).mono ?_
        rintro e X26 ⟨v4, l4, r4, rfl, hr4, hl4, b26⟩
        clear HCode26
        have T_27 := Lib.hid (T_25.out.trans (b26.mono T_25.out.size))
        clear b26 T_25
        have hn4 : l4.length ≤ 1048576 := by omega
        obtain ⟨va4, oa4, ca4, hv, hla4, hm4, hsu⟩ := hr4.sup (by omega)
        subst hv
        have Rq4_0 := Lib.hid hr4
        clear hr4 hsu
        clear hl4 
        have Rq4_28 := Lib.hid (Rq4_0.out.below ((Below.refl X26.heap.size X26).alloc (Nat.le_refl _) (.cells #[.int .i64 r4.w, .int .i64 r4.p] 26)) rfl)
        have T_28 := Lib.hid (T_27.out.alloc T_27.out.size (.cells #[.int .i64 r4.w, .int .i64 r4.p] 26))
        have Kx4_28 := Lib.hid (blk_new2S X26 (.int .i64 r4.w) (.int .i64 r4.p) 26)
        clear Rq4_0 T_27
        obtain ⟨kx40, kx41⟩ := blk_cell2S Kx4_28.out
        go_wp2_with fail
        clear kx40 kx41
        generalize hW29 : X26.alloc (.cells #[.int .i64 r4.w, .int .i64 r4.p] 26) = Z29 at *
        clear hW29
        refine (implGreatestSag_c (.slice (some ⟨va4, oa4, none⟩) l4.length ca4) l4 r4 _ Rq4_28.out hn4).mono ?_
        rintro e Y30 ⟨rfl, b30⟩
        have Kx4_31 := Lib.hid (blk_kept Kx4_28.out b30)
        have Rq4_31 := Lib.hid (Rq4_28.out.below b30 rfl)
        have T_31 := Lib.hid (T_28.out.trans (b30.mono T_28.out.size))
        clear b30 Kx4_28 Rq4_28 T_28
        obtain ⟨kx40, kx41⟩ := blk_cell2S Kx4_31.out
        go_wp2_with fail
        clear kx40 kx41
        refine (specGreatestSag_c (.slice (some ⟨va4, oa4, none⟩) l4.length ca4) l4 r4 _ Rq4_31.out hn4).mono ?_
        rintro e Y32 ⟨rfl, b32⟩
        have Kx4_33 := Lib.hid (blk_kept Kx4_31.out b32)
        have Rq4_33 := Lib.hid (Rq4_31.out.below b32 rfl)
        have T_33 := Lib.hid (T_31.out.trans (b32.mono T_31.out.size))
        clear b32 Kx4_31 Rq4_31 T_31
        go_wp2
        go_ret
        exact ⟨rfl, T_33.out⟩
end Go.Proofs.Ytmmjbdffpgohdaa
