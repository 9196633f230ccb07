/- AddCabin, the specification's. Condition: sizes. -/
import Derived.Test.YtmmjbdffpgohdaaCirAI
import Derived.Test.YtmmjbdffpgohdaaPutI
import Derived.Test.YtmmjbdffpgohdaaWithI
namespace Go.Proofs.Ytmmjbdffpgohdaa
open Go.RowKit
set_option linter.unusedVariables false
set_option maxRecDepth 100000 in
set_option maxHeartbeats 4000000 in
theorem specAddCabin_no (L S : Int) (v : Value) (l : List Int) (g : Int) (w : World) (hr : Rd w v (intVs l)) (hn : l.length ≤ 1048576) (hin : acIn L S l g = false) :
    Calls Try.prog 39 #[.agg #[.int .i64 L, .int .i64 S, v], .int .i64 g] w (CirR w (acL L S l g) (acS L S l g) (acR L S l g) (acOk L S l g)) := by
  have HD : Hid (acOk L S l g = false) := Lib.hid (by unfold acOk; rw [hin]; rfl)
  have HN := Lib.hid (ac_no HD.out)
  unfold acIn at hin
  have E0 := Lib.hid (fun W v h => l8Good_c L S v l W h hn)
  have E1 := Lib.hid (fun W => l1In_c g 1 4000 W)
  have HR := Lib.hid hr
  obtain ⟨ao, a, oa, ca, rfl, hao, hat⟩ := hr.form8
  have HA := Lib.hid hao
  have HL := Lib.hid hat
  have HB := Lib.hid (((Below.refl w.heap.size w).alloc (Nat.le_refl _) (.cells #[.int .i64 L, .int .i64 S, .slice ao l.length ca] 55)).alloc (by simp) (.cells #[.int .i64 0, .int .i64 0, .slice none 0 0] 55))
  have HB0 := Lib.hid (blk_stay (o' := (.cells #[.int .i64 0, .int .i64 0, .slice none 0 0] 55)) (blk_new3 w (.int .i64 L) (.int .i64 S) (.slice ao l.length ca) 55))
  have hb1 := blk_new3 (w.alloc (.cells #[.int .i64 L, .int .i64 S, .slice ao l.length ca] 55)) (.int .i64 0) (.int .i64 0) (.slice none 0 0) 55
  simp only [World.size_alloc] at hb1
  have HB1 := Lib.hid hb1
  clear hr hb1 hao hat
  cases hk : cirV L S l with
  | false =>
    rw [hk] at E0
    clear hk hin E1
    go_enter Try.func39, Try.ntmps39
    go_wp2_with fail
    refine (E0.out _ _ (HR.out.below HB.out rfl)).mono ?_
    rintro e w1 ⟨rfl, b1⟩
    have HT := Lib.hid (HB.out.trans (b1.mono HB.out.size))
    have HK1 := Lib.hid (blk_keep HB1.out b1 (by simp))
    have HK0 := Lib.hid (blk_keep HB0.out b1 (by simp; omega))
    have hs1 : w.heap.size + 2 ≤ w1.heap.size := by have := b1.size; simpa using this
    clear b1
    have KZ := HK1.out
    obtain ⟨r0, r1, r2⟩ := blk_cell3 KZ
    obtain ⟨s0, s1, s2⟩ := blk_froz3 KZ
    have Z := blk_all3 (x := .int .i64 0) (y := .int .i64 0) (z := .slice none 0 0) KZ
    obtain ⟨z0, z1, z2⟩ := blk_cell3 Z
    have Z0 := Lib.hid z0
    have Z1 := Lib.hid z1
    have Z2 := Lib.hid z2
    have HTF := Lib.hid (below_all3 HT.out (b := w.heap.size + 1) (by omega) (.int .i64 0) (.int .i64 0) (.slice none 0 0))
    clear Z z0 z1 z2 KZ
    go_wp2
    refine bodyPost_ret (v := .tuple #[.agg #[.int .i64 0, .int .i64 0, .slice none 0 0], .bool false]) (by simp [results, Try.results39, go_sem, Z0.out, Z1.out, Z2.out]) rfl (cirR_no HN.out HD.out HTF.out)
  | true =>
    rw [hk] at E0 hin
    rw [Bool.true_and] at hin
    rw [hin] at E1
    clear hk hin
    go_enter Try.func39, Try.ntmps39
    go_wp2_with fail
    refine (E0.out _ _ (HR.out.below HB.out rfl)).mono ?_
    rintro e w1 ⟨rfl, b1⟩
    have HT := Lib.hid (HB.out.trans (b1.mono HB.out.size))
    have HK1 := Lib.hid (blk_keep HB1.out b1 (by simp))
    have HK0 := Lib.hid (blk_keep HB0.out b1 (by simp; omega))
    have hs1 : w.heap.size + 2 ≤ w1.heap.size := by have := b1.size; simpa using this
    clear b1
    go_wp2_with fail
    refine (E1.out _).mono ?_
    rintro e w2 ⟨rfl, rfl⟩
    have KZ := HK1.out
    obtain ⟨r0, r1, r2⟩ := blk_cell3 KZ
    obtain ⟨s0, s1, s2⟩ := blk_froz3 KZ
    have Z := blk_all3 (x := .int .i64 0) (y := .int .i64 0) (z := .slice none 0 0) KZ
    obtain ⟨z0, z1, z2⟩ := blk_cell3 Z
    have Z0 := Lib.hid z0
    have Z1 := Lib.hid z1
    have Z2 := Lib.hid z2
    have HTF := Lib.hid (below_all3 HT.out (b := w.heap.size + 1) (by omega) (.int .i64 0) (.int .i64 0) (.slice none 0 0))
    clear Z z0 z1 z2 KZ
    go_wp2
    refine bodyPost_ret (v := .tuple #[.agg #[.int .i64 0, .int .i64 0, .slice none 0 0], .bool false]) (by simp [results, Try.results39, go_sem, Z0.out, Z1.out, Z2.out]) rfl (cirR_no HN.out HD.out HTF.out)
theorem rd_al {w : World} {v : Value} {xs : List Value} (h : Rd w v xs) (o : Obj) : Rd (w.alloc o) v xs := h.below ((Below.refl _ _).alloc (Nat.le_refl _) o) rfl
/-- the specification's search for the greatest gap -/
theorem amax_step (f : Nat → Int) (k : Nat) : amax f (k + 1) = if f (amax f k) < f (k + 1) then k + 1 else amax f k := rfl
set_option maxRecDepth 100000 in
set_option maxHeartbeats 8000000 in
theorem specAddCabin_yes (L S : Int) (v : Value) (l : List Int) (g : Int) (w : World) (hr : Rd w v (intVs l)) (hn : l.length ≤ 1048576) (hk : cirV L S l = true) (hm : inR g 1 4000 = true) :
    Calls Try.prog 39 #[.agg #[.int .i64 L, .int .i64 S, v], .int .i64 g] w (CirR w (acL L S l g) (acS L S l g) (acR L S l g) (acOk L S l g)) := by
  have E0 := Lib.hid (fun W v h => l8Good_c L S v l W h hn)
  have E1 := Lib.hid (fun W => l1In_c g 1 4000 W)
  have HR := Lib.hid hr
  obtain ⟨ao, a, oa, ca, rfl, hao, hat⟩ := hr.form8
  have HA := Lib.hid hao
  have HL := Lib.hid hat
  have HB := Lib.hid (((Below.refl w.heap.size w).alloc (Nat.le_refl _) (.cells #[.int .i64 L, .int .i64 S, .slice ao l.length ca] 55)).alloc (by simp) (.cells #[.int .i64 0, .int .i64 0, .slice none 0 0] 55))
  have HB0 := Lib.hid (blk_stay (o' := (.cells #[.int .i64 0, .int .i64 0, .slice none 0 0] 55)) (blk_new3 w (.int .i64 L) (.int .i64 S) (.slice ao l.length ca) 55))
  have hb1 := blk_new3 (w.alloc (.cells #[.int .i64 L, .int .i64 S, .slice ao l.length ca] 55)) (.int .i64 0) (.int .i64 0) (.slice none 0 0) 55
  simp only [World.size_alloc] at hb1
  have HB1 := Lib.hid hb1
  clear hr hb1 hao hat
  rw [hk] at E0
  rw [hm] at E1
  have hdd : acOk L S l g = (cirV L S (acNew L l) && decide (g ≤ leastTo (gapAt L (acNew L l)) (l.length))) := by unfold acOk acIn; rw [hk, hm]; rfl
  have HDD := Lib.hid hdd
  have hgb := (inR_iff g 1 4000).1 hm
  obtain ⟨hL, hS, hri, h12⟩ := cirV_parts hk
  have HKV := Lib.hid hk
  clear hk hm hri hdd
  by_cases h0 : 0 < l.length
  · skip
    obtain ⟨rfl, hla, hlm⟩ := HA.out h0
    go_enter Try.func39, Try.ntmps39
    go_wp2_with fail
    refine (E0.out _ _ (HR.out.below HB.out rfl)).mono ?_
    rintro e w1 ⟨rfl, b1⟩
    have HT := Lib.hid (HB.out.trans (b1.mono HB.out.size))
    have HK1 := Lib.hid (blk_keep HB1.out b1 (by simp))
    have HK0 := Lib.hid (blk_keep HB0.out b1 (by simp; omega))
    have hs1 : w.heap.size + 2 ≤ w1.heap.size := by have := b1.size; simpa using this
    clear b1
    obtain ⟨c0, c1, c2⟩ := blk_cell3 HK0.out
    go_wp2_with fail
    refine (E1.out _).mono ?_
    rintro e w2 ⟨rfl, rfl⟩
    go_wp2_with fail
    refine (l8Gaps_c L S _ l _ (HR.out.below HT.out rfl) HKV.out).mono ?_
    rintro e w3 ⟨G, rfl, oG, b3⟩
    have HT3 := Lib.hid (HT.out.trans (b3.mono HT.out.size))
    have HR3 := Lib.hid (blk_keep HK1.out b3 (by omega))
    have HK3 := Lib.hid (blk_keep HK0.out b3 (by omega))
    have hs3 : w.heap.size + 2 ≤ w3.heap.size := by have := b3.size; omega
    clear b3 c0 c1 c2
    rcases own_form oG with ⟨hz, rfl⟩ | ⟨gg0, gc0, rfl, hBg, hgw, hnc, hcm⟩
    · exact absurd hz (by omega)
    have HC : Hid (∀ j, j < l.length → w3.cell? ⟨gg0, j, none⟩ = some (.int .i64 (gapAt L l j))) := Lib.hid (fun j hj => by
      have h := own_cells8 oG j (by rw [gapsL_len]; exact hj)
      rw [Nat.zero_add] at h
      rw [h]
      unfold gapsL
      rw [gapsTo_get hj])
    clear oG
    have t2 : decide ((0 : Int) < (l.length : Int)) = true := by simp; omega
    go_wp2
    go_loopw [8, 9] (fun bb i wr => ∃ (k m : Nat), k + 1 ≤ l.length ∧ i = .int .i64 ((k : Int) + 1) ∧ bb = .int .i64 ((amax (gapAt L l) k : Nat) : Int) ∧ wr = w3.drewN m) (fun _ i _ => l.length - (intOf i).toNat)
    case atStart => exact ⟨0, 0, by omega, rfl, rfl, rfl⟩
    case round =>
      obtain ⟨k, m, hk, rfl, rfl, hwr⟩ := hrel
      have HWR := Lib.hid hwr
      by_cases hlt : k + 1 < l.length
      · have hbk := amax_le (gapAt L l) k
        have e0 : wr.cell? ⟨gg0, k + 1, none⟩ = some (.int .i64 (gapAt L l (k + 1))) := by rw [hwr]; exact HC.out (k + 1) hlt
        have e1 : wr.cell? ⟨gg0, amax (gapAt L l) k, none⟩ = some (.int .i64 (gapAt L l (amax (gapAt L l) k))) := by rw [hwr]; exact HC.out _ (by omega)
        have HS := Lib.hid (amax_step (gapAt L l) k)
        clear hwr
        generalize gapAt L l (amax (gapAt L l) k) = M0 at *
        generalize gapAt L l (k + 1) = M1 at *
        generalize hbb : amax (gapAt L l) k = b at *
        clear hbb
        have t1 : decide ((k : Int) + 1 < (l.length : Int)) = true := by simp; omega
        have hxi : (k : Int) + 1 < (l.length : Int) := by omega
        have p3 : ((k : Int) + 1).toNat = k + 1 := by omega
        have p4 : (0 : Int) ≤ (k : Int) + 1 := by omega
        have p5 : (0 : Int) ≤ (b : Int) := by omega
        have p6 : (b : Int) < (l.length : Int) := by omega
        have p7 : b < l.length := by omega
        by_cases hx : M0 < M1
        · have HS2 : Hid (amax (gapAt L l) (k + 1) = k + 1) := Lib.hid (by rw [HS.out, if_pos hx])
          have t3 : decide (M0 < M1) = true := by simpa using hx
          clear hx
          go_wp2_with fail
          go_quiet (fail)
          go_wp2
          go_roundw
          case rel => exact ⟨k + 1, m + nq, by omega, by go_num, by rw [HS2.out]; go_num, by rw [HWR.out, World.drewN_drewN]⟩
          case measure => simp [intOf]; omega
        · have HS2 : Hid (amax (gapAt L l) (k + 1) = b) := Lib.hid (by rw [HS.out, if_neg hx])
          have t3 : decide (M0 < M1) = false := by simpa using hx
          clear hx
          go_wp2_with fail
          go_quiet (fail)
          go_wp2
          go_roundw
          case rel => exact ⟨k + 1, m + nq, by omega, by go_num, by rw [HS2.out], by rw [HWR.out, World.drewN_drewN]⟩
          case measure => simp [intOf]; omega
      · obtain rfl : k = l.length - 1 := by omega
        have t1 : decide (((l.length - 1 : Nat) : Int) + 1 < (l.length : Int)) = false := by simp; omega
        obtain ⟨p1, p2, p3, p4, p5, p6⟩ := acSt_pos HKV.out h0
        have HDU := Lib.hid (fun h => ac_dup HKV.out h0 h)
        have HNW := Lib.hid (fun h => ac_new (l := l) HKV.out (fun _ => h))
        have e0 : wr.cell? ⟨gg0, amax (gapAt L l) (l.length - 1), none⟩ = some (.int .i64 (gapAt L l (amax (gapAt L l) (l.length - 1)))) := by rw [hwr]; exact HC.out _ p1
        have e1 : wr.cell? ⟨a, oa + amax (gapAt L l) (l.length - 1), none⟩ = some (.int .i64 (l.getD (amax (gapAt L l) (l.length - 1)) 0)) := by rw [hwr]; exact (HL.out.below HT3.out hla) _ p1
        have HTW : Hid (Below w.heap.size w wr) := Lib.hid (by rw [hwr]; exact below_drewN HT3.out m)
        have HRW : Hid (wr.heap[w.heap.size + 1]? = some (.cells #[.int .i64 0, .int .i64 0, .slice none 0 0] 55 (0, 0))) := Lib.hid (by rw [hwr]; exact HR3.out)
        have HKW : Hid (wr.heap[w.heap.size]? = some (.cells #[.int .i64 L, .int .i64 S, .slice (some ⟨a, oa, none⟩) l.length ca] 55 (0, 0))) := Lib.hid (by rw [hwr]; exact HK3.out)
        have hsw : w.heap.size + 2 ≤ wr.heap.size := by rw [hwr]; exact hs3
        clear hwr HWR HT HT3 HR3 HK3 hs3 HC HK0 HK1 hs1
        obtain ⟨c0, c1, c2⟩ := blk_cell3 HKW.out
        generalize gapAt L l (amax (gapAt L l) (l.length - 1)) = M at *
        generalize hbb : amax (gapAt L l) (l.length - 1) = b at *
        clear hbb
        generalize l.getD b 0 = X at *
        have HST : Hid (acSt L l = (X + M / 2) % L) := Lib.hid p4
        clear p4
        generalize hst : acSt L l = st at *
        have HSTE : Hid (acSt L l = st) := Lib.hid hst
        clear hst
        have q1 : Int.tdiv M 2 = M / 2 := Int.tdiv_eq_ediv_of_nonneg (by omega)
        have q2 : IntKind.i64.wrap (M / 2) = M / 2 := IntWalk.i64_in _ (by omega)
        have q3 : IntKind.i64.wrap (X + M / 2) = X + M / 2 := IntWalk.i64_in _ (by omega)
        have q4 : Int.tmod (X + M / 2) L = st := by rw [HST.out, Int.tmod_eq_emod_of_nonneg (by omega)]
        have q5 : IntKind.i64.wrap st = st := IntWalk.i64_in _ (by omega)
        have q6 : (L == 0) = false := by rw [beq_eq_false_iff_ne]; omega
        have q7 : ¬ (L = 0) := by omega
        have hbi : (0 : Int) ≤ (b : Int) := by omega
        have hbl : (b : Int) < (l.length : Int) := by omega
        by_cases hM : M < 2
        · have hcv := HDU.out hM
          have HD : Hid (acOk L S l g = false) := Lib.hid (by rw [HDD.out, hcv]; rfl)
          have HN := Lib.hid (ac_no HD.out)
          have t3 : decide (M < 2) = true := by simpa using hM
          clear hM hcv
          go_wp2_with fail
          go_quiet (fail)
          have HTQ := Lib.hid (below_drewN HTW.out nq)
          have HRQ : Hid ((wr.drewN nq).heap[w.heap.size + 1]? = some (.cells #[.int .i64 0, .int .i64 0, .slice none 0 0] 55 (0, 0))) := Lib.hid HRW.out
          have f0 : (wr.drewN nq).cell? ⟨gg0, b, none⟩ = some (.int .i64 M) := e0
          clear e0 e1 c0 c1 c2
          generalize wr.drewN nq = WQ at *
          have KZ := HRQ.out
          obtain ⟨r0, r1, r2⟩ := blk_cell3 KZ
          obtain ⟨s0, s1, s2⟩ := blk_froz3 KZ
          have Z := blk_all3 (x := .int .i64 0) (y := .int .i64 0) (z := .slice none 0 0) KZ
          obtain ⟨z0, z1, z2⟩ := blk_cell3 Z
          have Z0 := Lib.hid z0
          have Z1 := Lib.hid z1
          have Z2 := Lib.hid z2
          have HTF := Lib.hid (below_all3 HTQ.out (b := w.heap.size + 1) (by omega) (.int .i64 0) (.int .i64 0) (.slice none 0 0))
          clear Z z0 z1 z2 KZ
          go_wp2
          refine bodyPost_ret (v := .tuple #[.agg #[.int .i64 0, .int .i64 0, .slice none 0 0], .bool false]) (by simp [results, Try.results39, go_sem, Z0.out, Z1.out, Z2.out]) rfl (cirR_no HN.out HD.out HTF.out)
        · have HNI := Lib.hid (HNW.out (by omega))
          have t3 : decide (M < 2) = false := by simpa using hM
          clear hM
          go_wp2_with fail
          go_quiet (fail)
          have HT9 := Lib.hid (below_drewN HTW.out nq)
          have HR9 : Hid ((wr.drewN nq).heap[w.heap.size + 1]? = some (.cells #[.int .i64 0, .int .i64 0, .slice none 0 0] 55 (0, 0))) := Lib.hid HRW.out
          have HK9 : Hid ((wr.drewN nq).heap[w.heap.size]? = some (.cells #[.int .i64 L, .int .i64 S, .slice (some ⟨a, oa, none⟩) l.length ca] 55 (0, 0))) := Lib.hid HKW.out
          have hs9 : w.heap.size + 2 ≤ (wr.drewN nq).heap.size := hsw
          have f0 : (wr.drewN nq).cell? ⟨gg0, b, none⟩ = some (.int .i64 M) := e0
          clear e0 e1 c0 c1 c2
          go_wp2_with fail
          clear f0
          generalize wr.drewN nq = W0 at *
          have HRC := Lib.hid (fun W (hW : Below W0.heap.size W0 W) => HR.out.below (HT9.out.trans (hW.mono HT9.out.size)) rfl)
          have HKS : Hid (∀ W, Below W0.heap.size W0 W → Below W0.heap.size W0 W ∧ W.cell? ⟨w.heap.size, 0, none⟩ = some (.int .i64 L) ∧ W.cell? ⟨w.heap.size, 1, none⟩ = some (.int .i64 S) ∧ W.cell? ⟨w.heap.size, 2, none⟩ = some (.slice (some ⟨a, oa, none⟩) l.length ca)) := Lib.hid (fun W hW => by
            obtain ⟨d0, d1, d2⟩ := blk_cell3 (blk_keep HK9.out hW (by omega))
            exact ⟨hW, d0, d1, d2⟩)
          obtain ⟨_, c0, c1, c2⟩ := HKS.out W0 (Below.refl _ _)
          have hdr : W0.drew.heap.size = W0.heap.size := rfl
          have HNL := Lib.hid (acNew_len L l)
          have HPUT := Lib.hid (fun (k : Nat) (h1 : k ≤ l.length) (h2 : ∀ j, j < k → gth l j < acSt L l) (h3 : k < l.length → acSt L l ≤ gth l k) => ac_put (l := l) HKV.out h1 h2 h3)
          rw [HSTE.out] at HPUT
          go_cut [10] from 61 to 67 (fun p10 wx => ∃ (b10 : Nat) (ax : Option Addr) (cap : Nat), p10 = .pointer (some ⟨b10, 0, none⟩) ∧ Hid ((W0.heap.size ≤ b10 ∧ (Value.slice ax (l.length + 1) cap).ownBlock ≠ some b10) ∧ Below W0.heap.size W0 wx ∧ wx.heap[b10]? = some (.cells #[.int .i64 L, .int .i64 S, .slice ax (l.length + 1) cap] 55 (0, 0)) ∧ wx.ownsRow W0.heap.size 3 1 (.slice ax (l.length + 1) cap) (l.length + 1) (intVs (acNew L l))))
          case first =>
            as_aux_lemma =>
            go_region_held3 (fun w' => Below W0.heap.size W0 w' ∧ w'.cell? ⟨w.heap.size, 0, none⟩ = some (.int .i64 L) ∧ w'.cell? ⟨w.heap.size, 1, none⟩ = some (.int .i64 S) ∧ w'.cell? ⟨w.heap.size, 2, none⟩ = some (.slice (some ⟨a, oa, none⟩) l.length ca))
              (exact HKS.out _ (by first | exact below_all3 B3T (by first | exact Nat.le_refl _ | (have := B1T.size; have := B2T.size; omega) | fail) _ _ _ | ((repeat (first | exact B3T | exact B2T | exact B1T | exact Below.refl _ _ | refine Below.drew ?_ | refine below_al ?_ _)); first | done | fail) | fail))
              (first
                | (go_at_call 88; refine (l1Own_c _ l _ (HRC.out _ (by (repeat (first | exact B3T | exact B2T | exact B1T | exact Below.refl _ _ | refine Below.drew ?_ | refine below_al ?_ _)); first | done | fail)) (by omega)).mono ?_; rintro e W1 ⟨g1, rfl, o1, hg1, b1⟩; have B1T : Below W0.heap.size W0 W1 := bel_then (by (repeat (first | exact B3T | exact B2T | exact B1T | exact Below.refl _ _ | refine Below.drew ?_ | refine below_al ?_ _)); first | done | fail) b1; have OM1 : W1.ownsRow W0.heap.size 3 1 g1 l.length (intVs l) := own_mono o1 (by first | exact Nat.le_refl _ | (simp; done) | (simp; omega)))
                | (go_at_call 87; refine (l1Put_c g1 l st l.length _ W0.heap.size rfl (by repeat (first | exact OM1 | refine World.ownsRow.alloc ?_ _)) hg1 (by omega) HNI.out).mono ?_; rintro e W2 ⟨g2, rfl, k2, hk2, hp1, hp2, o2, hg2, b2⟩; have B2T : Below W0.heap.size W0 W2 := bel_then (by (repeat (first | exact B3T | exact B2T | exact B1T | exact Below.refl _ _ | refine Below.drew ?_ | refine below_al ?_ _)); first | done | fail) b2; rw [HPUT.out k2 hk2 hp1 hp2] at o2)
                | (go_at_call 86; have o2b := Rd.of_own o2; refine (l8With_c L S _ g2 l (acNew L l) _ (HRC.out _ (by (repeat (first | exact B3T | exact B2T | exact B1T | exact Below.refl _ _ | refine Below.drew ?_ | refine below_al ?_ _)); first | done | fail)) (by repeat (first | exact o2b | refine rd_al ?_ _)) (by rw [HNL.out]; omega)).mono ?_; rintro e W3 ⟨g3, rfl, o3, hg3, b3⟩; have B3T : Below W0.heap.size W0 W3 := bel_then (by (repeat (first | exact B3T | exact B2T | exact B1T | exact Below.refl _ _ | refine Below.drew ?_ | refine below_al ?_ _)); first | done | fail) b3; rw [HNL.out] at o3; obtain ⟨ax, cap, rfl⟩ := (Rs.of_own o3).shape; first | (have KB : W3.heap[W0.heap.size]? = some (.cells #[.int .i64 0, .int .i64 0, .slice none 0 0] 55 (0, 0)) := blk_kept (by (repeat (first | exact new_at _ _ _ (by first | rfl | (simp; done) | fail) | refine blk_stay ?_ | refine blk_kept ?_ b2 | refine blk_kept ?_ b1)); first | done | fail) b3; have NQ : (Value.slice ax (l.length + 1) cap).ownBlock ≠ some (W0.heap.size) := (fun e => by have h := (o3.lt _ e).1; have z1 := b1.size; have z2 := b2.size; simp at h z1 z2; first | done | omega | fail); obtain ⟨r0, r1, r2⟩ := blk_cell3 KB; obtain ⟨s0, s1, s2⟩ := blk_froz3 KB) | (have KB : W3.heap[W1.heap.size]? = some (.cells #[.int .i64 0, .int .i64 0, .slice none 0 0] 55 (0, 0)) := blk_kept (by (repeat (first | exact new_at _ _ _ (by first | rfl | (simp; done) | fail) | refine blk_stay ?_ | refine blk_kept ?_ b2 | refine blk_kept ?_ b1)); first | done | fail) b3; have NQ : (Value.slice ax (l.length + 1) cap).ownBlock ≠ some (W1.heap.size) := (fun e => by have h := (o3.lt _ e).1; have z1 := b1.size; have z2 := b2.size; simp at h z1 z2; first | done | omega | fail); obtain ⟨r0, r1, r2⟩ := blk_cell3 KB; obtain ⟨s0, s1, s2⟩ := blk_froz3 KB) | (have KB : W3.heap[W2.heap.size]? = some (.cells #[.int .i64 0, .int .i64 0, .slice none 0 0] 55 (0, 0)) := blk_kept (by (repeat (first | exact new_at _ _ _ (by first | rfl | (simp; done) | fail) | refine blk_stay ?_ | refine blk_kept ?_ b2 | refine blk_kept ?_ b1)); first | done | fail) b3; have NQ : (Value.slice ax (l.length + 1) cap).ownBlock ≠ some (W2.heap.size) := (fun e => by have h := (o3.lt _ e).1; have z1 := b1.size; have z2 := b2.size; simp at h z1 z2; first | done | omega | fail); obtain ⟨r0, r1, r2⟩ := blk_cell3 KB; obtain ⟨s0, s1, s2⟩ := blk_froz3 KB) | skip)
                | fail)
            all_goals (go_wp2_with fail)
            all_goals go_meet
            all_goals (case rel =>
              have o4 : W3.ownsRow W0.heap.size 3 1 (.slice ax (l.length + 1) cap) (l.length + 1) (intVs (acNew L l)) := own_mono o3 (by have := B2T.size; first | exact this | (simp; omega))
              first
              | exact ⟨_, ax, cap, rfl, Lib.hid ⟨⟨B3T.size, fun h => by have := (o4.lt _ h).2; omega⟩, below_al B3T _, (by first | exact blk_new3 _ _ _ _ _ | exact new_at _ _ _ (by simp)), o4.alloc _⟩⟩
              | exact ⟨_, ax, cap, rfl, Lib.hid ⟨⟨(by have := B1T.size; have := B2T.size; first | exact Nat.le_refl _ | omega), NQ⟩, below_all3 B3T (by have := B1T.size; have := B2T.size; first | exact Nat.le_refl _ | omega) _ _ _, blk_all3 KB, own_by o4 (grown_all3 _ _ _ _ _) (NQ)⟩⟩)
          case rest =>
            obtain ⟨b10, ax, cap, rfl, HC9⟩ := hcut
            obtain ⟨⟨hb10, hng⟩, hbc, K10, o10⟩ := HC9.out
            have HTc := Lib.hid (HT9.out.trans (hbc.mono HT9.out.size))
            have HR1 := Lib.hid (blk_keep HR9.out hbc (by omega))
            have HK10 := Lib.hid K10
            have HO10 := Lib.hid o10
            have hszc := hbc.size
            have hl10 := blk_lt K10
            obtain ⟨d0, d1, d2⟩ := blk_cell3 K10
            have hnw12 : (acNew L l).length ≤ 1048576 := by rw [HNL.out]; omega
            have EG := Lib.hid (l8Good_c L S _ (acNew L l) wc (Rd.of_own HO10.out) hnw12)
            clear HC9 K10 o10 c0 c1 c2 HKS HRC hbc hnw12
            cases hv : cirV L S (acNew L l) with
            | false =>
              rw [hv] at EG
              have HD : Hid (acOk L S l g = false) := Lib.hid (by rw [HDD.out, hv]; rfl)
              have HN := Lib.hid (ac_no HD.out)
              clear hv
              go_wp2_with fail
              refine EG.out.mono ?_
              rintro e w5 ⟨rfl, b5⟩
              have HT5 := Lib.hid (HTc.out.trans (b5.mono HTc.out.size))
              have HR5 := Lib.hid (blk_keep HR1.out b5 (by omega))
              clear b5 d0 d1 d2
              have KZ := HR5.out
              obtain ⟨r0, r1, r2⟩ := blk_cell3 KZ
              obtain ⟨s0, s1, s2⟩ := blk_froz3 KZ
              have Z := blk_all3 (x := .int .i64 0) (y := .int .i64 0) (z := .slice none 0 0) KZ
              obtain ⟨z0, z1, z2⟩ := blk_cell3 Z
              have Z0 := Lib.hid z0
              have Z1 := Lib.hid z1
              have Z2 := Lib.hid z2
              have HTF := Lib.hid (below_all3 HT5.out (b := w.heap.size + 1) (by omega) (.int .i64 0) (.int .i64 0) (.slice none 0 0))
              clear Z z0 z1 z2 KZ
              go_wp2
              refine bodyPost_ret (v := .tuple #[.agg #[.int .i64 0, .int .i64 0, .slice none 0 0], .bool false]) (by simp [results, Try.results39, go_sem, Z0.out, Z1.out, Z2.out]) rfl (cirR_no HN.out HD.out HTF.out)
            | true =>
              have hdd : acOk L S l g = decide (g ≤ leastTo (gapAt L (acNew L l)) l.length) := by rw [HDD.out, hv, Bool.true_and]
              have ES := Lib.hid (fun W u h => l8Smallest_c L S u (acNew L l) W h hv (by rw [HNL.out]; omega))
              rw [hv] at EG
              rw [HNL.out, Nat.add_sub_cancel] at ES
              generalize leastTo (gapAt L (acNew L l)) l.length = Q at *
              by_cases hq : Q < g
              · have HD : Hid (acOk L S l g = false) := Lib.hid (by rw [hdd, decide_eq_false (by omega)])
                have HN := Lib.hid (ac_no HD.out)
                have t3 : decide (Q < g) = true := by simpa using hq
                clear hv hdd hq
                go_wp2_with fail
                refine EG.out.mono ?_
                rintro e w4 ⟨rfl, b4⟩
                have HT4 := Lib.hid (HTc.out.trans (b4.mono HTc.out.size))
                have HR4 := Lib.hid (blk_keep HR1.out b4 (by omega))
                have HO4 := Lib.hid (owns_below HO10.out b4)
                have hs4 := b4.size
                clear d0 d1 d2
                obtain ⟨d0, d1, d2⟩ := blk_cell3 (blk_kept HK10.out b4)
                clear b4
                go_wp2_with fail
                refine (ES.out _ _ (Rd.of_own HO4.out)).mono ?_
                rintro e w5 ⟨rfl, b5⟩
                have HT5 := Lib.hid (HT4.out.trans (b5.mono HT4.out.size))
                have HR5 := Lib.hid (blk_keep HR4.out b5 (by omega))
                clear b5 d0 d1 d2
                have KZ := HR5.out
                obtain ⟨r0, r1, r2⟩ := blk_cell3 KZ
                obtain ⟨s0, s1, s2⟩ := blk_froz3 KZ
                have Z := blk_all3 (x := .int .i64 0) (y := .int .i64 0) (z := .slice none 0 0) KZ
                obtain ⟨z0, z1, z2⟩ := blk_cell3 Z
                have Z0 := Lib.hid z0
                have Z1 := Lib.hid z1
                have Z2 := Lib.hid z2
                have HTF := Lib.hid (below_all3 HT5.out (b := w.heap.size + 1) (by omega) (.int .i64 0) (.int .i64 0) (.slice none 0 0))
                clear Z z0 z1 z2 KZ
                go_wp2
                refine bodyPost_ret (v := .tuple #[.agg #[.int .i64 0, .int .i64 0, .slice none 0 0], .bool false]) (by simp [results, Try.results39, go_sem, Z0.out, Z1.out, Z2.out]) rfl (cirR_no HN.out HD.out HTF.out)
              · have HD : Hid (acOk L S l g = true) := Lib.hid (by rw [hdd, decide_eq_true (by omega)])
                have HY := Lib.hid (ac_yes HD.out)
                have t3 : decide (Q < g) = false := by simpa using hq
                clear hv hdd hq
                go_wp2_with fail
                refine EG.out.mono ?_
                rintro e w4 ⟨rfl, b4⟩
                have HT4 := Lib.hid (HTc.out.trans (b4.mono HTc.out.size))
                have HR4 := Lib.hid (blk_keep HR1.out b4 (by omega))
                have HO4 := Lib.hid (owns_below HO10.out b4)
                have hs4 := b4.size
                clear d0 d1 d2
                have HK4 := Lib.hid (blk_kept HK10.out b4)
                obtain ⟨d0, d1, d2⟩ := blk_cell3 HK4.out
                clear b4
                go_wp2_with fail
                refine (ES.out _ _ (Rd.of_own HO4.out)).mono ?_
                rintro e w5 ⟨rfl, b5⟩
                have HT5 := Lib.hid (HT4.out.trans (b5.mono HT4.out.size))
                have HR5 := Lib.hid (blk_keep HR4.out b5 (by omega))
                have HO5 := Lib.hid (own_by (b := w.heap.size + 1) (own_mono (owns_below HO4.out b5) (show w.heap.size ≤ W0.heap.size by omega)) (grown_all3 w5 (w.heap.size + 1) (.int .i64 L) (.int .i64 S) (.slice ax (l.length + 1) cap)) (fun h => by have := (HO10.out.lt _ h).1; omega))
                clear d0 d1 d2
                obtain ⟨d0, d1, d2⟩ := blk_cell3 (blk_kept HK4.out b5)
                clear b5
                have KZ := HR5.out
                obtain ⟨r0, r1, r2⟩ := blk_cell3 KZ
                obtain ⟨s0, s1, s2⟩ := blk_froz3 KZ
                have Z := blk_all3 (x := .int .i64 L) (y := .int .i64 S) (z := .slice ax (l.length + 1) cap) KZ
                obtain ⟨z0, z1, z2⟩ := blk_cell3 Z
                have Z0 := Lib.hid z0
                have Z1 := Lib.hid z1
                have Z2 := Lib.hid z2
                have HTF := Lib.hid (below_all3 HT5.out (b := w.heap.size + 1) (by omega) (.int .i64 L) (.int .i64 S) (.slice ax (l.length + 1) cap))
                clear Z z0 z1 z2 KZ
                go_wp2
                refine bodyPost_ret (v := .tuple #[.agg #[.int .i64 L, .int .i64 S, .slice ax (l.length + 1) cap], .bool true]) (by simp [results, Try.results39, go_sem, Z0.out, Z1.out, Z2.out]) rfl (⟨_, by rw [HY.out.1, HY.out.2.1, HD.out], by rw [HY.out.2.2, HNL.out]; exact HO5.out, HTF.out⟩)
  · skip
    have hst0 := acSt_zero (L := L) (l := l) (by omega)
    have HNI := Lib.hid (ac_new (l := l) HKV.out (fun h => absurd h h0))
    have t2 : decide ((0 : Int) < (l.length : Int)) = false := by rw [decide_eq_false_iff_not]; omega
    have t3 : decide (0 < l.length) = false := by rw [decide_eq_false_iff_not]; omega
    have HL0 : Hid (l.length = 0) := Lib.hid (by omega)
    have HSTE : Hid (acSt L l = 0) := Lib.hid hst0
    rw [hst0] at HNI
    clear h0 hst0
    go_enter Try.func39, Try.ntmps39
    go_wp2_with fail
    refine (E0.out _ _ (HR.out.below HB.out rfl)).mono ?_
    rintro e w1 ⟨rfl, b1⟩
    have HT := Lib.hid (HB.out.trans (b1.mono HB.out.size))
    have HK1 := Lib.hid (blk_keep HB1.out b1 (by simp))
    have HK0 := Lib.hid (blk_keep HB0.out b1 (by simp; omega))
    have hs1 : w.heap.size + 2 ≤ w1.heap.size := by have := b1.size; simpa using this
    clear b1
    obtain ⟨c0, c1, c2⟩ := blk_cell3 HK0.out
    go_wp2_with fail
    refine (E1.out _).mono ?_
    rintro e w2 ⟨rfl, rfl⟩
    go_wp2_with fail
    refine (l8Gaps_c L S _ l _ (HR.out.below HT.out rfl) HKV.out).mono ?_
    rintro e w3 ⟨G, rfl, oG, b3⟩
    have HT3 := Lib.hid (HT.out.trans (b3.mono HT.out.size))
    have HR3 := Lib.hid (blk_keep HK1.out b3 (by omega))
    have HK3 := Lib.hid (blk_keep HK0.out b3 (by omega))
    have hs3 : w.heap.size + 2 ≤ w3.heap.size := by have := b3.size; omega
    clear b3 c0 c1 c2
    obtain ⟨gx, gcx, rfl⟩ := (Rs.of_own oG).shape
    clear oG
    obtain ⟨c0, c1, c2⟩ := blk_cell3 HK3.out
    go_wp2_with fail
    have HT9 := HT3
    have HK9 := HK3
    have HR9 := HR3
    have hs9 := hs3
    clear HT HT3 HK0 HK1 HK3 HR3 hs1 hs3 c0 c1 c2 t2 t3
    generalize w3 = W0 at *
    have HRC := Lib.hid (fun W (hW : Below W0.heap.size W0 W) => HR.out.below (HT9.out.trans (hW.mono HT9.out.size)) rfl)
    have HKS : Hid (∀ W, Below W0.heap.size W0 W → Below W0.heap.size W0 W ∧ W.cell? ⟨w.heap.size, 0, none⟩ = some (.int .i64 L) ∧ W.cell? ⟨w.heap.size, 1, none⟩ = some (.int .i64 S) ∧ W.cell? ⟨w.heap.size, 2, none⟩ = some (.slice ao l.length ca)) := Lib.hid (fun W hW => by
      obtain ⟨d0, d1, d2⟩ := blk_cell3 (blk_keep HK9.out hW (by omega))
      exact ⟨hW, d0, d1, d2⟩)
    obtain ⟨_, c0, c1, c2⟩ := HKS.out W0 (Below.refl _ _)
    have hdr : W0.drew.heap.size = W0.heap.size := rfl
    have HNL := Lib.hid (acNew_len L l)
    have HPUT := Lib.hid (fun (k : Nat) (h1 : k ≤ l.length) (h2 : ∀ j, j < k → gth l j < acSt L l) (h3 : k < l.length → acSt L l ≤ gth l k) => ac_put (l := l) HKV.out h1 h2 h3)
    rw [HSTE.out] at HPUT
    go_cut [10] from 61 to 67 (fun p10 wx => ∃ (b10 : Nat) (ax : Option Addr) (cap : Nat), p10 = .pointer (some ⟨b10, 0, none⟩) ∧ Hid ((W0.heap.size ≤ b10 ∧ (Value.slice ax (l.length + 1) cap).ownBlock ≠ some b10) ∧ Below W0.heap.size W0 wx ∧ wx.heap[b10]? = some (.cells #[.int .i64 L, .int .i64 S, .slice ax (l.length + 1) cap] 55 (0, 0)) ∧ wx.ownsRow W0.heap.size 3 1 (.slice ax (l.length + 1) cap) (l.length + 1) (intVs (acNew L l))))
    case first =>
      as_aux_lemma =>
      go_region_held3 (fun w' => Below W0.heap.size W0 w' ∧ w'.cell? ⟨w.heap.size, 0, none⟩ = some (.int .i64 L) ∧ w'.cell? ⟨w.heap.size, 1, none⟩ = some (.int .i64 S) ∧ w'.cell? ⟨w.heap.size, 2, none⟩ = some (.slice ao l.length ca))
        (exact HKS.out _ (by first | exact below_all3 B3T (by first | exact Nat.le_refl _ | (have := B1T.size; have := B2T.size; omega) | fail) _ _ _ | ((repeat (first | exact B3T | exact B2T | exact B1T | exact Below.refl _ _ | refine Below.drew ?_ | refine below_al ?_ _)); first | done | fail) | fail))
        (first
          | (go_at_call 88; refine (l1Own_c _ l _ (HRC.out _ (by (repeat (first | exact B3T | exact B2T | exact B1T | exact Below.refl _ _ | refine Below.drew ?_ | refine below_al ?_ _)); first | done | fail)) (by omega)).mono ?_; rintro e W1 ⟨g1, rfl, o1, hg1, b1⟩; have B1T : Below W0.heap.size W0 W1 := bel_then (by (repeat (first | exact B3T | exact B2T | exact B1T | exact Below.refl _ _ | refine Below.drew ?_ | refine below_al ?_ _)); first | done | fail) b1; have OM1 : W1.ownsRow W0.heap.size 3 1 g1 l.length (intVs l) := own_mono o1 (by first | exact Nat.le_refl _ | (simp; done) | (simp; omega)))
          | (go_at_call 87; refine (l1Put_c g1 l 0 l.length _ W0.heap.size rfl (by repeat (first | exact OM1 | refine World.ownsRow.alloc ?_ _)) hg1 (by omega) HNI.out).mono ?_; rintro e W2 ⟨g2, rfl, k2, hk2, hp1, hp2, o2, hg2, b2⟩; have B2T : Below W0.heap.size W0 W2 := bel_then (by (repeat (first | exact B3T | exact B2T | exact B1T | exact Below.refl _ _ | refine Below.drew ?_ | refine below_al ?_ _)); first | done | fail) b2; rw [HPUT.out k2 hk2 hp1 hp2] at o2)
          | (go_at_call 86; have o2b := Rd.of_own o2; refine (l8With_c L S _ g2 l (acNew L l) _ (HRC.out _ (by (repeat (first | exact B3T | exact B2T | exact B1T | exact Below.refl _ _ | refine Below.drew ?_ | refine below_al ?_ _)); first | done | fail)) (by repeat (first | exact o2b | refine rd_al ?_ _)) (by rw [HNL.out]; omega)).mono ?_; rintro e W3 ⟨g3, rfl, o3, hg3, b3⟩; have B3T : Below W0.heap.size W0 W3 := bel_then (by (repeat (first | exact B3T | exact B2T | exact B1T | exact Below.refl _ _ | refine Below.drew ?_ | refine below_al ?_ _)); first | done | fail) b3; rw [HNL.out] at o3; obtain ⟨ax, cap, rfl⟩ := (Rs.of_own o3).shape; first | (have KB : W3.heap[W0.heap.size]? = some (.cells #[.int .i64 0, .int .i64 0, .slice none 0 0] 55 (0, 0)) := blk_kept (by (repeat (first | exact new_at _ _ _ (by first | rfl | (simp; done) | fail) | refine blk_stay ?_ | refine blk_kept ?_ b2 | refine blk_kept ?_ b1)); first | done | fail) b3; have NQ : (Value.slice ax (l.length + 1) cap).ownBlock ≠ some (W0.heap.size) := (fun e => by have h := (o3.lt _ e).1; have z1 := b1.size; have z2 := b2.size; simp at h z1 z2; first | done | omega | fail); obtain ⟨r0, r1, r2⟩ := blk_cell3 KB; obtain ⟨s0, s1, s2⟩ := blk_froz3 KB) | (have KB : W3.heap[W1.heap.size]? = some (.cells #[.int .i64 0, .int .i64 0, .slice none 0 0] 55 (0, 0)) := blk_kept (by (repeat (first | exact new_at _ _ _ (by first | rfl | (simp; done) | fail) | refine blk_stay ?_ | refine blk_kept ?_ b2 | refine blk_kept ?_ b1)); first | done | fail) b3; have NQ : (Value.slice ax (l.length + 1) cap).ownBlock ≠ some (W1.heap.size) := (fun e => by have h := (o3.lt _ e).1; have z1 := b1.size; have z2 := b2.size; simp at h z1 z2; first | done | omega | fail); obtain ⟨r0, r1, r2⟩ := blk_cell3 KB; obtain ⟨s0, s1, s2⟩ := blk_froz3 KB) | (have KB : W3.heap[W2.heap.size]? = some (.cells #[.int .i64 0, .int .i64 0, .slice none 0 0] 55 (0, 0)) := blk_kept (by (repeat (first | exact new_at _ _ _ (by first | rfl | (simp; done) | fail) | refine blk_stay ?_ | refine blk_kept ?_ b2 | refine blk_kept ?_ b1)); first | done | fail) b3; have NQ : (Value.slice ax (l.length + 1) cap).ownBlock ≠ some (W2.heap.size) := (fun e => by have h := (o3.lt _ e).1; have z1 := b1.size; have z2 := b2.size; simp at h z1 z2; first | done | omega | fail); obtain ⟨r0, r1, r2⟩ := blk_cell3 KB; obtain ⟨s0, s1, s2⟩ := blk_froz3 KB) | skip)
          | fail)
      all_goals (go_wp2_with fail)
      all_goals go_meet
      all_goals (case rel =>
        have o4 : W3.ownsRow W0.heap.size 3 1 (.slice ax (l.length + 1) cap) (l.length + 1) (intVs (acNew L l)) := own_mono o3 (by have := B2T.size; first | exact this | (simp; omega))
        first
        | exact ⟨_, ax, cap, rfl, Lib.hid ⟨⟨B3T.size, fun h => by have := (o4.lt _ h).2; omega⟩, below_al B3T _, (by first | exact blk_new3 _ _ _ _ _ | exact new_at _ _ _ (by simp)), o4.alloc _⟩⟩
        | exact ⟨_, ax, cap, rfl, Lib.hid ⟨⟨(by have := B1T.size; have := B2T.size; first | exact Nat.le_refl _ | omega), NQ⟩, below_all3 B3T (by have := B1T.size; have := B2T.size; first | exact Nat.le_refl _ | omega) _ _ _, blk_all3 KB, own_by o4 (grown_all3 _ _ _ _ _) (NQ)⟩⟩)
    case rest =>
      obtain ⟨b10, ax, cap, rfl, HC9⟩ := hcut
      obtain ⟨⟨hb10, hng⟩, hbc, K10, o10⟩ := HC9.out
      have HTc := Lib.hid (HT9.out.trans (hbc.mono HT9.out.size))
      have HR1 := Lib.hid (blk_keep HR9.out hbc (by omega))
      have HK10 := Lib.hid K10
      have HO10 := Lib.hid o10
      have hszc := hbc.size
      have hl10 := blk_lt K10
      obtain ⟨d0, d1, d2⟩ := blk_cell3 K10
      have hnw12 : (acNew L l).length ≤ 1048576 := by rw [HNL.out]; omega
      have EG := Lib.hid (l8Good_c L S _ (acNew L l) wc (Rd.of_own HO10.out) hnw12)
      clear HC9 K10 o10 c0 c1 c2 HKS HRC hbc hnw12
      cases hv : cirV L S (acNew L l) with
      | false =>
        rw [hv] at EG
        have HD : Hid (acOk L S l g = false) := Lib.hid (by rw [HDD.out, hv]; rfl)
        have HN := Lib.hid (ac_no HD.out)
        clear hv
        go_wp2_with fail
        refine EG.out.mono ?_
        rintro e w5 ⟨rfl, b5⟩
        have HT5 := Lib.hid (HTc.out.trans (b5.mono HTc.out.size))
        have HR5 := Lib.hid (blk_keep HR1.out b5 (by omega))
        clear b5 d0 d1 d2
        have KZ := HR5.out
        obtain ⟨r0, r1, r2⟩ := blk_cell3 KZ
        obtain ⟨s0, s1, s2⟩ := blk_froz3 KZ
        have Z := blk_all3 (x := .int .i64 0) (y := .int .i64 0) (z := .slice none 0 0) KZ
        obtain ⟨z0, z1, z2⟩ := blk_cell3 Z
        have Z0 := Lib.hid z0
        have Z1 := Lib.hid z1
        have Z2 := Lib.hid z2
        have HTF := Lib.hid (below_all3 HT5.out (b := w.heap.size + 1) (by omega) (.int .i64 0) (.int .i64 0) (.slice none 0 0))
        clear Z z0 z1 z2 KZ
        go_wp2
        refine bodyPost_ret (v := .tuple #[.agg #[.int .i64 0, .int .i64 0, .slice none 0 0], .bool false]) (by simp [results, Try.results39, go_sem, Z0.out, Z1.out, Z2.out]) rfl (cirR_no HN.out HD.out HTF.out)
      | true =>
        have hdd : acOk L S l g = decide (g ≤ leastTo (gapAt L (acNew L l)) l.length) := by rw [HDD.out, hv, Bool.true_and]
        have ES := Lib.hid (fun W u h => l8Smallest_c L S u (acNew L l) W h hv (by rw [HNL.out]; omega))
        rw [hv] at EG
        rw [HNL.out, Nat.add_sub_cancel] at ES
        generalize leastTo (gapAt L (acNew L l)) l.length = Q at *
        by_cases hq : Q < g
        · have HD : Hid (acOk L S l g = false) := Lib.hid (by rw [hdd, decide_eq_false (by omega)])
          have HN := Lib.hid (ac_no HD.out)
          have t3 : decide (Q < g) = true := by simpa using hq
          clear hv hdd hq
          go_wp2_with fail
          refine EG.out.mono ?_
          rintro e w4 ⟨rfl, b4⟩
          have HT4 := Lib.hid (HTc.out.trans (b4.mono HTc.out.size))
          have HR4 := Lib.hid (blk_keep HR1.out b4 (by omega))
          have HO4 := Lib.hid (owns_below HO10.out b4)
          have hs4 := b4.size
          clear d0 d1 d2
          obtain ⟨d0, d1, d2⟩ := blk_cell3 (blk_kept HK10.out b4)
          clear b4
          go_wp2_with fail
          refine (ES.out _ _ (Rd.of_own HO4.out)).mono ?_
          rintro e w5 ⟨rfl, b5⟩
          have HT5 := Lib.hid (HT4.out.trans (b5.mono HT4.out.size))
          have HR5 := Lib.hid (blk_keep HR4.out b5 (by omega))
          clear b5 d0 d1 d2
          have KZ := HR5.out
          obtain ⟨r0, r1, r2⟩ := blk_cell3 KZ
          obtain ⟨s0, s1, s2⟩ := blk_froz3 KZ
          have Z := blk_all3 (x := .int .i64 0) (y := .int .i64 0) (z := .slice none 0 0) KZ
          obtain ⟨z0, z1, z2⟩ := blk_cell3 Z
          have Z0 := Lib.hid z0
          have Z1 := Lib.hid z1
          have Z2 := Lib.hid z2
          have HTF := Lib.hid (below_all3 HT5.out (b := w.heap.size + 1) (by omega) (.int .i64 0) (.int .i64 0) (.slice none 0 0))
          clear Z z0 z1 z2 KZ
          go_wp2
          refine bodyPost_ret (v := .tuple #[.agg #[.int .i64 0, .int .i64 0, .slice none 0 0], .bool false]) (by simp [results, Try.results39, go_sem, Z0.out, Z1.out, Z2.out]) rfl (cirR_no HN.out HD.out HTF.out)
        · have HD : Hid (acOk L S l g = true) := Lib.hid (by rw [hdd, decide_eq_true (by omega)])
          have HY := Lib.hid (ac_yes HD.out)
          have t3 : decide (Q < g) = false := by simpa using hq
          clear hv hdd hq
          go_wp2_with fail
          refine EG.out.mono ?_
          rintro e w4 ⟨rfl, b4⟩
          have HT4 := Lib.hid (HTc.out.trans (b4.mono HTc.out.size))
          have HR4 := Lib.hid (blk_keep HR1.out b4 (by omega))
          have HO4 := Lib.hid (owns_below HO10.out b4)
          have hs4 := b4.size
          clear d0 d1 d2
          have HK4 := Lib.hid (blk_kept HK10.out b4)
          obtain ⟨d0, d1, d2⟩ := blk_cell3 HK4.out
          clear b4
          go_wp2_with fail
          refine (ES.out _ _ (Rd.of_own HO4.out)).mono ?_
          rintro e w5 ⟨rfl, b5⟩
          have HT5 := Lib.hid (HT4.out.trans (b5.mono HT4.out.size))
          have HR5 := Lib.hid (blk_keep HR4.out b5 (by omega))
          have HO5 := Lib.hid (own_by (b := w.heap.size + 1) (own_mono (owns_below HO4.out b5) (show w.heap.size ≤ W0.heap.size by omega)) (grown_all3 w5 (w.heap.size + 1) (.int .i64 L) (.int .i64 S) (.slice ax (l.length + 1) cap)) (fun h => by have := (HO10.out.lt _ h).1; omega))
          clear d0 d1 d2
          obtain ⟨d0, d1, d2⟩ := blk_cell3 (blk_kept HK4.out b5)
          clear b5
          have KZ := HR5.out
          obtain ⟨r0, r1, r2⟩ := blk_cell3 KZ
          obtain ⟨s0, s1, s2⟩ := blk_froz3 KZ
          have Z := blk_all3 (x := .int .i64 L) (y := .int .i64 S) (z := .slice ax (l.length + 1) cap) KZ
          obtain ⟨z0, z1, z2⟩ := blk_cell3 Z
          have Z0 := Lib.hid z0
          have Z1 := Lib.hid z1
          have Z2 := Lib.hid z2
          have HTF := Lib.hid (below_all3 HT5.out (b := w.heap.size + 1) (by omega) (.int .i64 L) (.int .i64 S) (.slice ax (l.length + 1) cap))
          clear Z z0 z1 z2 KZ
          go_wp2
          refine bodyPost_ret (v := .tuple #[.agg #[.int .i64 L, .int .i64 S, .slice ax (l.length + 1) cap], .bool true]) (by simp [results, Try.results39, go_sem, Z0.out, Z1.out, Z2.out]) rfl (⟨_, by rw [HY.out.1, HY.out.2.1, HD.out], by rw [HY.out.2.2, HNL.out]; exact HO5.out, HTF.out⟩)
theorem implAddCabin_c (L S : Int) (v : Value) (l : List Int) (g : Int) (w : World) (hr : Rd w v (intVs l)) (hn : l.length ≤ 1048576) (hwg : (Lit.int .i64 g).wf = true) :
    Calls Try.prog 38 #[.agg #[.int .i64 L, .int .i64 S, v], .int .i64 g] w (CirR w (acL L S l g) (acS L S l g) (acR L S l g) (acOk L S l g)) := by
  cases h : acIn L S l g with
  | false => exact implAddCabin_no L S v l g w hr hn h
  | true =>
    unfold acIn at h
    rw [Bool.and_eq_true] at h
    exact implAddCabin_yes L S v l g w hr hn h.1 h.2
theorem specAddCabin_c (L S : Int) (v : Value) (l : List Int) (g : Int) (w : World) (hr : Rd w v (intVs l)) (hn : l.length ≤ 1048576) (hwg : (Lit.int .i64 g).wf = true) :
    Calls Try.prog 39 #[.agg #[.int .i64 L, .int .i64 S, v], .int .i64 g] w (CirR w (acL L S l g) (acS L S l g) (acR L S l g) (acOk L S l g)) := by
  cases h : acIn L S l g with
  | false => exact specAddCabin_no L S v l g w hr hn h
  | true =>
    unfold acIn at h
    rw [Bool.and_eq_true] at h
    exact specAddCabin_yes L S v l g w hr hn h.1 h.2
end Go.Proofs.Ytmmjbdffpgohdaa
