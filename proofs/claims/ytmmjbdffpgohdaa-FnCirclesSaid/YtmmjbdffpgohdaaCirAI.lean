/- AddCabin, the program's. Condition: sizes. -/
import Derived.Test.YtmmjbdffpgohdaaCirAM
import Derived.Test.YtmmjbdffpgohdaaCirR
import Derived.Deep.RegionHeld3
import Derived.Deep.AppendLies
import Derived.Deep.DeepCutAuto
namespace Go.Proofs.Ytmmjbdffpgohdaa
open Go.RowKit Go.Sort
set_option linter.unusedVariables false
theorem sortJ_c (v : Value) (zs : List Int) (w : World) (B : Nat) (ho : w.ownsRow B 3 1 v zs.length (intVs zs)) (hn : zs.length ≤ 1048576) :
    Calls Try.prog 83 #[v] w fun e w' => e = .returned (.tuple #[]) ∧ w'.ownsRow B 3 1 v zs.length (intVs (srt zs)) ∧ w.grownBy w' v.ownBlock := by
  rcases ho.2 with ⟨rfl, h0⟩ | ⟨g, cap, cur, rfl, hbase, hb, h1, h2, h3, h4⟩
  · obtain rfl := List.eq_nil_of_length_eq_zero h0
    refine (Try.slices_Sort_int_none none 0 w).mono ?_
    rintro e w' ⟨he, rfl⟩
    exact ⟨he, by rw [srt_nil]; exact ho, World.grownBy.refl _ _⟩
  · refine (Try.slices_Sort_int g 0 cap zs w (holds_of_blockI hb (by rw [Nat.mul_one] at h4; exact h4)) (Array.getElem?_eq_some_iff.1 hb).1 (by omega)).mono ?_
    rintro e w' ⟨he, n, os, rfl⟩
    exact ⟨he, ownsRow_sortedI (srt_len zs) hbase hb h1 h2 h3, grownBy_sortedI _⟩
/-- how a block lies behind what was made or called since -/
theorem blk_kept {w w' : World} {b : Nat} {o : Obj} (h : w.heap[b]? = some o) (k : Below w.heap.size w w') : w'.heap[b]? = some o := blk_keep h k (blk_lt h)
theorem grow_kept {w w' : World} {b : Nat} {o : Obj} {row : Option Nat} (h : w.heap[b]? = some o) (k : w.grownBy w' row) (ne : some b ≠ row) : w'.heap[b]? = some o := (k.block b (blk_lt h) ne).trans h
theorem below_al {a w : World} (h : Below a.heap.size a w) (o : Obj) : Below a.heap.size a (w.alloc o) := h.alloc h.size o
theorem bel_then {a x w' : World} (h : Below a.heap.size a x) (k : Below x.heap.size x w') : Below a.heap.size a w' := h.trans (k.mono h.size)
theorem bel_grow {a x w' : World} {row : Option Nat} (h : Below a.heap.size a x) (k : x.grownBy w' row) (hr : ∀ j, row = some j → a.heap.size ≤ j) : Below a.heap.size a w' := h.grown k h.size hr
theorem nq_of {X : World} {v : Value} {gg a : Nat} (hat : v.ownBlock = some gg ∨ gg = X.heap.size) (ne : some a ≠ v.ownBlock) (hlt : a < X.heap.size) : gg ≠ a := by
  rcases hat with h | h
  · intro e; exact ne (by rw [h, e])
  · omega
theorem new_at (w : World) (o : Obj) (n : Nat) (h : n = w.heap.size) : (w.alloc o).heap[n]? = some o := by subst h; exact heap_alloc_new w o
theorem zb_new (w : World) : (w.alloc (.cells #[.int .i64 0, .int .i64 0, .slice none 0 0] 55)).heap[w.heap.size]? = some (.cells #[.int .i64 0, .int .i64 0, .slice none 0 0] 55 (0, 0)) := blk_new3 w _ _ _ _
theorem zb_stay {w : World} {a : Nat} {c : Array Value} {t : TypeId} (h : w.heap[a]? = some (.cells #[.int .i64 0, .int .i64 0, .slice none 0 0] 55 (0, 0))) : (w.alloc (.cells c t)).heap[a]? = some (.cells #[.int .i64 0, .int .i64 0, .slice none 0 0] 55 (0, 0)) := blk_stay h
theorem zb_drew {w : World} {a : Nat} (h : w.heap[a]? = some (.cells #[.int .i64 0, .int .i64 0, .slice none 0 0] 55 (0, 0))) : w.drew.heap[a]? = some (.cells #[.int .i64 0, .int .i64 0, .slice none 0 0] 55 (0, 0)) := h
set_option maxRecDepth 100000 in
set_option maxHeartbeats 4000000 in
theorem implAddCabin_no (L S : Int) (v : Value) (l : List Int) (g : Int) (w : World) (hr : Rd w v (intVs l)) (hn : l.length ≤ 1048576) (hin : acIn L S l g = false) :
    Calls Try.prog 38 #[.agg #[.int .i64 L, .int .i64 S, v], .int .i64 g] w (CirR w (acL L S l g) (acS L S l g) (acR L S l g) (acOk L S l g)) := by
  have E0 := Lib.hid (fun W v h => implGapsOf_c L S v l W h hn)
  have E1 := Lib.hid (fun W => within_c g 1 4000 W)
  have HD : Hid (acOk L S l g = false) := Lib.hid (by unfold acOk; rw [hin]; rfl)
  have HN := Lib.hid (ac_no HD.out)
  unfold acIn at hin
  have HR := Lib.hid hr
  obtain ⟨ao, a, oa, ca, rfl, hao, hat⟩ := hr.form8
  have HB := Lib.hid (((Below.refl w.heap.size w).alloc (Nat.le_refl _) (.cells #[.int .i64 L, .int .i64 S, .slice ao l.length ca] 55)).alloc (by simp) (.cells #[.int .i64 0, .int .i64 0, .slice none 0 0] 55))
  have hb1 := blk_new3 (w.alloc (.cells #[.int .i64 L, .int .i64 S, .slice ao l.length ca] 55)) (.int .i64 0) (.int .i64 0) (.slice none 0 0) 55
  simp only [World.size_alloc] at hb1
  have HB1 := Lib.hid hb1
  clear hr hb1 hao hat
  cases hk : cirV L S l with
  | false =>
    rw [hk] at E0
    clear hk hin E1
    go_enter Try.func38, Try.ntmps38
    go_wp2_with fail
    refine (E0.out _ _ (HR.out.below HB.out rfl)).mono ?_
    rintro e w1 ⟨G, rfl, oG, b1⟩
    have HT := Lib.hid (HB.out.trans (b1.mono HB.out.size))
    have HK1 := Lib.hid (blk_keep HB1.out b1 (by simp))
    clear b1 oG
    have KZ := HK1.out
    obtain ⟨r0, r1, r2⟩ := blk_cell3 KZ
    obtain ⟨s0, s1, s2⟩ := blk_froz3 KZ
    have Z := blk_all3 (x := .int .i64 0) (y := .int .i64 0) (z := .slice none 0 0) KZ
    obtain ⟨z0, z1, z2⟩ := blk_cell3 Z
    have Z0 := Lib.hid z0
    have Z1 := Lib.hid z1
    have Z2 := Lib.hid z2
    have HTF := Lib.hid (below_all3 HT.out (b := w.heap.size + 1) (by omega) (.int .i64 0) (.int .i64 0) (.slice none 0 0))
    clear Z z0 z1 z2 KZ
    go_wp2
    refine bodyPost_ret (v := .tuple #[.agg #[.int .i64 0, .int .i64 0, .slice none 0 0], .bool false]) (by simp [results, Try.results38, go_sem, Z0.out, Z1.out, Z2.out]) rfl (cirR_no HN.out HD.out HTF.out)
  | true =>
    rw [hk] at E0 hin
    rw [Bool.true_and] at hin
    rw [hin] at E1
    clear hk hin
    go_enter Try.func38, Try.ntmps38
    go_wp2_with fail
    refine (E0.out _ _ (HR.out.below HB.out rfl)).mono ?_
    rintro e w1 ⟨G, rfl, oG, b1⟩
    have HT := Lib.hid (HB.out.trans (b1.mono HB.out.size))
    have HK1 := Lib.hid (blk_keep HB1.out b1 (by simp))
    clear b1 oG
    go_wp2_with fail
    refine (E1.out _).mono ?_
    rintro e w2 ⟨rfl, rfl⟩
    have KZ := HK1.out
    obtain ⟨r0, r1, r2⟩ := blk_cell3 KZ
    obtain ⟨s0, s1, s2⟩ := blk_froz3 KZ
    have Z := blk_all3 (x := .int .i64 0) (y := .int .i64 0) (z := .slice none 0 0) KZ
    obtain ⟨z0, z1, z2⟩ := blk_cell3 Z
    have Z0 := Lib.hid z0
    have Z1 := Lib.hid z1
    have Z2 := Lib.hid z2
    have HTF := Lib.hid (below_all3 HT.out (b := w.heap.size + 1) (by omega) (.int .i64 0) (.int .i64 0) (.slice none 0 0))
    clear Z z0 z1 z2 KZ
    go_wp2
    refine bodyPost_ret (v := .tuple #[.agg #[.int .i64 0, .int .i64 0, .slice none 0 0], .bool false]) (by simp [results, Try.results38, go_sem, Z0.out, Z1.out, Z2.out]) rfl (cirR_no HN.out HD.out HTF.out)
set_option maxRecDepth 100000 in
set_option maxHeartbeats 8000000 in
theorem implAddCabin_yes (L S : Int) (v : Value) (l : List Int) (g : Int) (w : World) (hr : Rd w v (intVs l)) (hn : l.length ≤ 1048576) (hk : cirV L S l = true) (hm : inR g 1 4000 = true) :
    Calls Try.prog 38 #[.agg #[.int .i64 L, .int .i64 S, v], .int .i64 g] w (CirR w (acL L S l g) (acS L S l g) (acR L S l g) (acOk L S l g)) := by
  obtain ⟨i0, hi, hz0, hz1, hz2⟩ := info_parts Try.infoInt8
  have E0 := Lib.hid (fun W v h => implGapsOf_c L S v l W h hn)
  have E1 := Lib.hid (fun W => within_c g 1 4000 W)
  rw [hk] at E0
  rw [hm] at E1
  have HG := Lib.hid ((gp_yes hk).trans (by rfl : gapsL L l = gapsTo L l l.length))
  rw [HG.out, gapsTo_len] at E0
  have hdd : acOk L S l g = (cirV L S (acNew L l) && decide (g ≤ leastTo (gapAt L (acNew L l)) (l.length))) := by unfold acOk acIn; rw [hk, hm]; rfl
  have HDD := Lib.hid hdd
  have hgb := (inR_iff g 1 4000).1 hm
  obtain ⟨hL, hS, hri, h12⟩ := cirV_parts hk
  have HKV := Lib.hid hk
  have HR := Lib.hid hr
  obtain ⟨ao, a, oa, ca, rfl, hao, hat⟩ := hr.form8
  have HA := Lib.hid hao
  have HL := Lib.hid hat
  have HB := Lib.hid (((Below.refl w.heap.size w).alloc (Nat.le_refl _) (.cells #[.int .i64 L, .int .i64 S, .slice ao l.length ca] 55)).alloc (by simp) (.cells #[.int .i64 0, .int .i64 0, .slice none 0 0] 55))
  have HB0 := Lib.hid (blk_stay (o' := (.cells #[.int .i64 0, .int .i64 0, .slice none 0 0] 55)) (blk_new3 w (.int .i64 L) (.int .i64 S) (.slice ao l.length ca) 55))
  have hb1 := blk_new3 (w.alloc (.cells #[.int .i64 L, .int .i64 S, .slice ao l.length ca] 55)) (.int .i64 0) (.int .i64 0) (.slice none 0 0) 55
  simp only [World.size_alloc] at hb1
  have HB1 := Lib.hid hb1
  clear hr hb1 hao hat hk hm hri hdd
  by_cases h0 : 0 < l.length
  · skip
    obtain ⟨rfl, hla, hlm⟩ := HA.out h0
    obtain ⟨p1, p2, p3, p4, p5, p6⟩ := acSt_pos HKV.out h0
    have HMX := Lib.hid (maxOf_gaps L l l.length (l.length - 1) (by omega))
    have HIX := Lib.hid (idxOf_gaps (L := L) (l := l) h0)
    rw [show l.length - 1 + 1 = l.length by omega] at HMX
    have hac := HL.out (amax (gapAt L l) (l.length - 1)) p1
    generalize gapAt L l (amax (gapAt L l) (l.length - 1)) = M at *
    generalize amax (gapAt L l) (l.length - 1) = b at *
    generalize l.getD b 0 = X at *
    have HST : Hid (acSt L l = (X + M / 2) % L) := Lib.hid p4
    clear p4
    generalize hst : acSt L l = st at *
    have HSTE : Hid (acSt L l = st) := Lib.hid hst
    clear hst
    have t1 : ((l.length : Int) == 0) = false := by rw [beq_eq_false_iff_ne]; omega
    have t2 : decide ((0 : Int) < (l.length : Int)) = true := by simp; omega
    have q1 : Int.tdiv M 2 = M / 2 := Int.tdiv_eq_ediv_of_nonneg (by omega)
    have q2 : IntKind.i64.wrap (M / 2) = M / 2 := IntWalk.i64_in _ (by omega)
    have q3 : IntKind.i64.wrap (X + M / 2) = X + M / 2 := IntWalk.i64_in _ (by omega)
    have q4 : Int.tmod (X + M / 2) L = st := by rw [HST.out, Int.tmod_eq_emod_of_nonneg (by omega)]
    have q5 : IntKind.i64.wrap st = st := IntWalk.i64_in _ (by omega)
    have q6 : (L == 0) = false := by rw [beq_eq_false_iff_ne]; omega
    have q7 : ¬ (L = 0) := by omega
    have hbi : (0 : Int) ≤ (b : Int) := by omega
    have hbl : (b : Int) < (l.length : Int) := by omega
    go_enter Try.func38, Try.ntmps38
    go_wp2_with fail
    refine (E0.out _ _ (HR.out.below HB.out rfl)).mono ?_
    rintro e w1 ⟨G, rfl, oG, b1⟩
    have HT := Lib.hid (HB.out.trans (b1.mono HB.out.size))
    have HK1 := Lib.hid (blk_keep HB1.out b1 (by simp))
    have HK0 := Lib.hid (blk_keep HB0.out b1 (by simp; omega))
    have hs1 : w.heap.size + 2 ≤ w1.heap.size := by have := b1.size; simpa using this
    clear b1
    rcases own_form oG with ⟨hz, rfl⟩ | ⟨gg0, gc0, rfl, hBg, hgw, hnc, hcm⟩
    · exact absurd hz (by omega)
    have HC := Lib.hid (own_cells8 oG)
    have hgl := gapsTo_len L l l.length
    clear oG
    go_wp2_with fail
    refine (E1.out _).mono ?_
    rintro e w2 ⟨rfl, rfl⟩
    go_wp2_with fail
    refine (Try.slices_Max_int gg0 0 l.length gc0 (gapsTo L l l.length) _ h0 (by omega) (by omega) HC.out).mono ?_
    rintro e w3 ⟨rfl, rfl⟩
    rw [HMX.out]
    have e0 : w3.cell? ⟨a, oa + b, none⟩ = some (.int .i64 X) := (HT.out.cell (p := ⟨a, oa + b, none⟩) hla).trans hac
    have HQ : Hid (∀ m, Calls Try.prog 74 #[.slice (some ⟨gg0, 0, none⟩) l.length gc0, .int .i64 M] (w3.drewN m) fun e w'' => e = .returned (.int .i64 (b : Int)) ∧ ∃ n, w'' = w3.drewN n) := Lib.hid (fun m =>
      (Try.slices_Index_int gg0 0 l.length gc0 (gapsTo L l l.length) M (w3.drewN m) (by omega) (by omega) (fun j hj => by rw [World.cell?_drewN]; exact HC.out j hj)).mono fun _ _ h => ⟨by rw [← HIX.out]; exact h.1, m, h.2⟩)
    obtain ⟨c0, c1, c2⟩ := blk_cell3 HK0.out
    go_wp2_with fail
    go_quiet ((go_at_call 74; exact HQ.out _))
    clear q1 q2 q3 q4 q5 q6 q7 e0
    go_wp2_with fail
    have HT9 : Hid (Below w.heap.size w (w3.drewN nq)) := Lib.hid (below_drewN HT.out nq)
    have HK9 : Hid ((w3.drewN nq).heap[w.heap.size]? = some (.cells #[.int .i64 L, .int .i64 S, .slice (some ⟨a, oa, none⟩) l.length ca] 55 (0, 0))) := Lib.hid HK0.out
    have HR9 : Hid ((w3.drewN nq).heap[w.heap.size + 1]? = some (.cells #[.int .i64 0, .int .i64 0, .slice none 0 0] 55 (0, 0))) := Lib.hid HK1.out
    have hs9 : w.heap.size + 2 ≤ (w3.drewN nq).heap.size := hs1
    clear HT HK0 HK1 hs1 c0 c1 c2 HC HQ
    generalize w3.drewN nq = W0 at *
    have HRC := Lib.hid (fun W (hW : Below W0.heap.size W0 W) => HR.out.below (HT9.out.trans (hW.mono HT9.out.size)) rfl)
    have HKS : Hid (∀ W, Below W0.heap.size W0 W → Below W0.heap.size W0 W ∧ W.cell? ⟨w.heap.size, 0, none⟩ = some (.int .i64 L) ∧ W.cell? ⟨w.heap.size, 1, none⟩ = some (.int .i64 S) ∧ W.cell? ⟨w.heap.size, 2, none⟩ = some (.slice (some ⟨a, oa, none⟩) l.length ca)) := Lib.hid (fun W hW => by
      obtain ⟨d0, d1, d2⟩ := blk_cell3 (blk_keep HK9.out hW (by omega))
      exact ⟨hW, d0, d1, d2⟩)
    obtain ⟨_, c0, c1, c2⟩ := HKS.out W0 (Below.refl _ _)
    have hdr : W0.drew.heap.size = W0.heap.size := rfl
    go_cut [10] from 43 to 53 (fun p10 wx => ∃ (b10 gg cap : Nat), p10 = .pointer (some ⟨b10, 0, none⟩) ∧ Hid ((W0.heap.size ≤ b10 ∧ W0.heap.size ≤ gg ∧ gg ≠ b10) ∧ Below W0.heap.size W0 wx ∧ wx.heap[b10]? = some (.cells #[.int .i64 L, .int .i64 S, .slice (some ⟨gg, 0, none⟩) (l.length + 1) cap] 55 (0, 0)) ∧ wx.ownsRow W0.heap.size 3 1 (.slice (some ⟨gg, 0, none⟩) (l.length + 1) cap) (l.length + 1) (intVs (l ++ [st]))))
    case first =>
      as_aux_lemma =>
      go_region_held3 (fun w' => Below W0.heap.size W0 w' ∧ w'.cell? ⟨w.heap.size, 0, none⟩ = some (.int .i64 L) ∧ w'.cell? ⟨w.heap.size, 1, none⟩ = some (.int .i64 S) ∧ w'.cell? ⟨w.heap.size, 2, none⟩ = some (.slice (some ⟨a, oa, none⟩) l.length ca))
        (exact HKS.out _ (by first | exact below_all3 B3T (by first | exact Nat.le_refl _ | (have := B1T.size; omega) | fail) _ _ _ | ((repeat (first | exact B3T | exact B1T | exact Below.refl _ _ | refine Below.drew ?_ | refine below_al ?_ _)); first | done | fail) | fail))
        (first
          | (go_at_call 82; refine (cloneI_c _ l _ (HRC.out _ (by (repeat (first | exact B3T | exact B1T | exact Below.refl _ _ | refine Below.drew ?_ | refine below_al ?_ _)); first | done | fail)) (by omega)).mono ?_; rintro e W1 ⟨g1, rfl, o1, b1⟩; have B1T : Below W0.heap.size W0 W1 := bel_then (by (repeat (first | exact B3T | exact B1T | exact Below.refl _ _ | refine Below.drew ?_ | refine below_al ?_ _)); first | done | fail) b1; have OM1 : W1.ownsRow W0.heap.size 3 1 g1 l.length (intVs l) := own_mono o1 (by first | exact Nat.le_refl _ | (simp; done) | (simp; omega)))
          | (refine step_append_lies _ (by rfl) _ _ _ (by rfl) W0.heap.size 3 i0 (.int .i64 0) 1 8 Try.underlying49 hi hz0 hz1 hz2 rfl (by omega) g1 l.length (intVs l) (by rfl) (by repeat (first | exact OM1 | refine World.ownsRow.alloc ?_ _)) _ 1 1 [.int .i64 st] (by rfl) (by rfl) (World.news_of_block (cs := #[.int .i64 st]) (t := 3) (fr := (0, 0)) (by (repeat (first | exact new_at _ _ _ (by first | rfl | (simp; done) | fail) | refine blk_stay ?_ | refine blk_kept ?_ b1)); first | done | fail)) (by simp [Value.oneCell']) (by omega) (by unfold maxLen; omega) (by omega) (by have := B1T.size; first | exact this | (simp; omega)) _ (by rfl) ?_; intro gg cap W3 o3 hgrow hat hlt3; have B3T : Below W0.heap.size W0 W3 := bel_grow (by (repeat (first | exact B3T | exact B1T | exact Below.refl _ _ | refine Below.drew ?_ | refine below_al ?_ _)); first | done | fail) hgrow (fun j hj => (OM1.lt j hj).1); first | (have NE : some (W0.heap.size) ≠ g1.ownBlock := (fun e => by have h := o1.lt _ e.symm; simp at h; first | done | omega | fail); have KB : W3.heap[W0.heap.size]? = some (.cells #[.int .i64 0, .int .i64 0, .slice none 0 0] 55 (0, 0)) := grow_kept (by (repeat (first | exact new_at _ _ _ (by first | rfl | (simp; done) | fail) | refine blk_stay ?_ | refine blk_kept ?_ b1)); first | done | fail) hgrow NE; have NQ : gg ≠ W0.heap.size := nq_of hat NE (blk_lt (o := (.cells #[.int .i64 0, .int .i64 0, .slice none 0 0] 55 (0, 0))) (by (repeat (first | exact new_at _ _ _ (by first | rfl | (simp; done) | fail) | refine blk_stay ?_ | refine blk_kept ?_ b1)); first | done | fail)); obtain ⟨r0, r1, r2⟩ := blk_cell3 KB; obtain ⟨s0, s1, s2⟩ := blk_froz3 KB) | (have NE : some (W0.heap.size + 1) ≠ g1.ownBlock := (fun e => by have h := o1.lt _ e.symm; simp at h; first | done | omega | fail); have KB : W3.heap[W0.heap.size + 1]? = some (.cells #[.int .i64 0, .int .i64 0, .slice none 0 0] 55 (0, 0)) := grow_kept (by (repeat (first | exact new_at _ _ _ (by first | rfl | (simp; done) | fail) | refine blk_stay ?_ | refine blk_kept ?_ b1)); first | done | fail) hgrow NE; have NQ : gg ≠ W0.heap.size + 1 := nq_of hat NE (blk_lt (o := (.cells #[.int .i64 0, .int .i64 0, .slice none 0 0] 55 (0, 0))) (by (repeat (first | exact new_at _ _ _ (by first | rfl | (simp; done) | fail) | refine blk_stay ?_ | refine blk_kept ?_ b1)); first | done | fail)); obtain ⟨r0, r1, r2⟩ := blk_cell3 KB; obtain ⟨s0, s1, s2⟩ := blk_froz3 KB) | (have NE : some (W1.heap.size) ≠ g1.ownBlock := (fun e => by have h := o1.lt _ e.symm; simp at h; first | done | omega | fail); have KB : W3.heap[W1.heap.size]? = some (.cells #[.int .i64 0, .int .i64 0, .slice none 0 0] 55 (0, 0)) := grow_kept (by (repeat (first | exact new_at _ _ _ (by first | rfl | (simp; done) | fail) | refine blk_stay ?_ | refine blk_kept ?_ b1)); first | done | fail) hgrow NE; have NQ : gg ≠ W1.heap.size := nq_of hat NE (blk_lt (o := (.cells #[.int .i64 0, .int .i64 0, .slice none 0 0] 55 (0, 0))) (by (repeat (first | exact new_at _ _ _ (by first | rfl | (simp; done) | fail) | refine blk_stay ?_ | refine blk_kept ?_ b1)); first | done | fail)); obtain ⟨r0, r1, r2⟩ := blk_cell3 KB; obtain ⟨s0, s1, s2⟩ := blk_froz3 KB) | (have NE : some (W1.heap.size + 1) ≠ g1.ownBlock := (fun e => by have h := o1.lt _ e.symm; simp at h; first | done | omega | fail); have KB : W3.heap[W1.heap.size + 1]? = some (.cells #[.int .i64 0, .int .i64 0, .slice none 0 0] 55 (0, 0)) := grow_kept (by (repeat (first | exact new_at _ _ _ (by first | rfl | (simp; done) | fail) | refine blk_stay ?_ | refine blk_kept ?_ b1)); first | done | fail) hgrow NE; have NQ : gg ≠ W1.heap.size + 1 := nq_of hat NE (blk_lt (o := (.cells #[.int .i64 0, .int .i64 0, .slice none 0 0] 55 (0, 0))) (by (repeat (first | exact new_at _ _ _ (by first | rfl | (simp; done) | fail) | refine blk_stay ?_ | refine blk_kept ?_ b1)); first | done | fail)); obtain ⟨r0, r1, r2⟩ := blk_cell3 KB; obtain ⟨s0, s1, s2⟩ := blk_froz3 KB) | skip)
          | fail)
      all_goals (go_wp2_with fail)
      all_goals go_meet
      all_goals (case rel =>
        have o4 : W3.ownsRow W0.heap.size 3 1 (.slice (some ⟨gg, 0, none⟩) (l.length + 1) cap) (l.length + 1) (intVs (l ++ [st])) := by rw [iv_snoc]; exact o3
        have hgl := (o4.lt gg rfl).1
        first
        | exact ⟨_, gg, cap, rfl, Lib.hid ⟨⟨B3T.size, hgl, by omega⟩, below_al B3T _, (by first | exact blk_new3 _ _ _ _ _ | exact new_at _ _ _ (by simp)), o4.alloc _⟩⟩
        | exact ⟨_, gg, cap, rfl, Lib.hid ⟨⟨(by have := B1T.size; first | exact Nat.le_refl _ | omega), hgl, NQ⟩, below_all3 B3T (by have := B1T.size; first | exact Nat.le_refl _ | omega) _ _ _, blk_all3 KB, own_by o4 (grown_all3 _ _ _ _ _) (fun h => by simp [Value.ownBlock] at h; exact NQ h)⟩⟩)
    case rest =>
      obtain ⟨b10, gg, cap, rfl, HC9⟩ := hcut
      obtain ⟨⟨hb10, hgg, hng⟩, hbc, K10, o10⟩ := HC9.out
      have HTc := Lib.hid (HT9.out.trans (hbc.mono HT9.out.size))
      have HR1 := Lib.hid (blk_keep HR9.out hbc (by omega))
      have HK10 := Lib.hid K10
      have hlen : (l ++ [st]).length = l.length + 1 := by simp
      have HNW : Hid (srt (l ++ [st]) = acNew L l) := Lib.hid (by unfold acNew; rw [HSTE.out])
      have HO10 : Hid (wc.ownsRow W0.heap.size 3 1 (.slice (some ⟨gg, 0, none⟩) (l ++ [st]).length cap) (l ++ [st]).length (intVs (l ++ [st]))) := Lib.hid (by rw [hlen]; exact o10)
      have HLEN := Lib.hid hlen
      have HNL := Lib.hid (acNew_len L l)
      have hszc := hbc.size
      have hl10 := blk_lt K10
      obtain ⟨d0, d1, d2⟩ := blk_cell3 K10
      clear HC9 K10 o10 hlen c0 c1 c2 HKS HRC hbc
      go_wp2_with fail
      rw [← HLEN.out]
      refine (sortJ_c _ (l ++ [st]) _ W0.heap.size HO10.out (by rw [HLEN.out]; omega)).mono ?_
      rintro e w4 ⟨rfl, o4, g4⟩
      rw [HNW.out, HLEN.out] at o4
      rw [HLEN.out] at g4
      have K4 : w4.heap[b10]? = some (.cells #[.int .i64 L, .int .i64 S, .slice (some ⟨gg, 0, none⟩) (l.length + 1) cap] 55 (0, 0)) := (g4.block b10 hl10 (fun e => by simp [Value.ownBlock] at e; omega)).trans HK10.out
      have HR4 := Lib.hid ((g4.block (w.heap.size + 1) (by omega) (fun e => by simp [Value.ownBlock] at e; omega)).trans HR1.out)
      have HT4 := Lib.hid (HTc.out.grown g4 HTc.out.size (fun j hj => by simp [Value.ownBlock] at hj; omega))
      have hs4 := g4.size
      have HO4 := Lib.hid o4
      rw [HLEN.out]
      clear d0 d1 d2 o4 g4
      obtain ⟨d0, d1, d2⟩ := blk_cell3 K4
      have HK4 := Lib.hid K4
      clear K4
      have ES := Lib.hid (implSmallestGap_c L S _ (acNew L l) w4 (Rd.of_own HO4.out) (by rw [HNL.out]; omega))
      cases hv : cirV L S (acNew L l) with
      | false =>
        have hsg : sgOk L S (acNew L l) = false := by unfold sgOk; rw [hv]; rfl
        rw [sg_no hsg, hsg] at ES
        have HD : Hid (acOk L S l g = false) := Lib.hid (by rw [HDD.out, hv]; rfl)
        have HN := Lib.hid (ac_no HD.out)
        clear hv hsg
        go_wp2_with fail
        refine ES.out.mono ?_
        rintro e w5 ⟨rfl, b5⟩
        have HT5 := Lib.hid (HT4.out.trans (b5.mono HT4.out.size))
        have HR5 := Lib.hid (blk_keep HR4.out b5 (by omega))
        clear b5 d0 d1 d2
        have KZ := HR5.out
        obtain ⟨r0, r1, r2⟩ := blk_cell3 KZ
        obtain ⟨s0, s1, s2⟩ := blk_froz3 KZ
        have Z := blk_all3 (x := .int .i64 0) (y := .int .i64 0) (z := .slice none 0 0) KZ
        obtain ⟨z0, z1, z2⟩ := blk_cell3 Z
        have Z0 := Lib.hid z0
        have Z1 := Lib.hid z1
        have Z2 := Lib.hid z2
        have HTF := Lib.hid (below_all3 HT5.out (b := w.heap.size + 1) (by omega) (.int .i64 0) (.int .i64 0) (.slice none 0 0))
        clear Z z0 z1 z2 KZ
        go_wp2
        refine bodyPost_ret (v := .tuple #[.agg #[.int .i64 0, .int .i64 0, .slice none 0 0], .bool false]) (by simp [results, Try.results38, go_sem, Z0.out, Z1.out, Z2.out]) rfl (cirR_no HN.out HD.out HTF.out)
      | true =>
        have hsg : sgOk L S (acNew L l) = true := by unfold sgOk; rw [hv, HNL.out]; simp
        have hsv := sg_yes hsg
        rw [HNL.out, Nat.add_sub_cancel] at hsv
        rw [hsv, hsg] at ES
        have hdd : acOk L S l g = decide (g ≤ leastTo (gapAt L (acNew L l)) l.length) := by rw [HDD.out, hv, Bool.true_and]
        generalize leastTo (gapAt L (acNew L l)) l.length = Q at *
        by_cases hq : Q < g
        · have HD : Hid (acOk L S l g = false) := Lib.hid (by rw [hdd, decide_eq_false (by omega)])
          have HN := Lib.hid (ac_no HD.out)
          have t3 : decide (Q < g) = true := by simpa using hq
          clear hv hsg hsv hdd hq
          go_wp2_with fail
          refine ES.out.mono ?_
          rintro e w5 ⟨rfl, b5⟩
          have HT5 := Lib.hid (HT4.out.trans (b5.mono HT4.out.size))
          have HR5 := Lib.hid (blk_keep HR4.out b5 (by omega))
          clear b5 d0 d1 d2
          have KZ := HR5.out
          obtain ⟨r0, r1, r2⟩ := blk_cell3 KZ
          obtain ⟨s0, s1, s2⟩ := blk_froz3 KZ
          have Z := blk_all3 (x := .int .i64 0) (y := .int .i64 0) (z := .slice none 0 0) KZ
          obtain ⟨z0, z1, z2⟩ := blk_cell3 Z
          have Z0 := Lib.hid z0
          have Z1 := Lib.hid z1
          have Z2 := Lib.hid z2
          have HTF := Lib.hid (below_all3 HT5.out (b := w.heap.size + 1) (by omega) (.int .i64 0) (.int .i64 0) (.slice none 0 0))
          clear Z z0 z1 z2 KZ
          go_wp2
          refine bodyPost_ret (v := .tuple #[.agg #[.int .i64 0, .int .i64 0, .slice none 0 0], .bool false]) (by simp [results, Try.results38, go_sem, Z0.out, Z1.out, Z2.out]) rfl (cirR_no HN.out HD.out HTF.out)
        · have HD : Hid (acOk L S l g = true) := Lib.hid (by rw [hdd, decide_eq_true (by omega)])
          have HY := Lib.hid (ac_yes HD.out)
          have t3 : decide (Q < g) = false := by simpa using hq
          clear hv hsg hsv hdd hq
          go_wp2_with fail
          refine ES.out.mono ?_
          rintro e w5 ⟨rfl, b5⟩
          have HT5 := Lib.hid (HT4.out.trans (b5.mono HT4.out.size))
          have HR5 := Lib.hid (blk_keep HR4.out b5 (by omega))
          have HO5 := Lib.hid (own_by (b := w.heap.size + 1) (own_mono (owns_below HO4.out b5) (show w.heap.size ≤ W0.heap.size by omega)) (grown_all3 w5 (w.heap.size + 1) (.int .i64 L) (.int .i64 S) (.slice (some ⟨gg, 0, none⟩) (l.length + 1) cap)) (fun h => by simp [Value.ownBlock] at h; omega))
          clear d0 d1 d2
          obtain ⟨d0, d1, d2⟩ := blk_cell3 (w := w5) (b := b10) (by exact blk_keep (B := w4.heap.size) HK4.out b5 (by omega))
          clear b5
          have KZ := HR5.out
          obtain ⟨r0, r1, r2⟩ := blk_cell3 KZ
          obtain ⟨s0, s1, s2⟩ := blk_froz3 KZ
          have Z := blk_all3 (x := .int .i64 L) (y := .int .i64 S) (z := .slice (some ⟨gg, 0, none⟩) (l.length + 1) cap) KZ
          obtain ⟨z0, z1, z2⟩ := blk_cell3 Z
          have Z0 := Lib.hid z0
          have Z1 := Lib.hid z1
          have Z2 := Lib.hid z2
          have HTF := Lib.hid (below_all3 HT5.out (b := w.heap.size + 1) (by omega) (.int .i64 L) (.int .i64 S) (.slice (some ⟨gg, 0, none⟩) (l.length + 1) cap))
          clear Z z0 z1 z2 KZ
          go_wp2
          refine bodyPost_ret (v := .tuple #[.agg #[.int .i64 L, .int .i64 S, .slice (some ⟨gg, 0, none⟩) (l.length + 1) cap], .bool true]) (by simp [results, Try.results38, go_sem, Z0.out, Z1.out, Z2.out]) rfl (⟨_, by rw [HY.out.1, HY.out.2.1, HD.out], by rw [HY.out.2.2, HNL.out]; exact HO5.out, HTF.out⟩)
  · skip
    have hst0 := acSt_zero (L := L) (l := l) (by omega)
    have t1 : ((l.length : Int) == 0) = true := by rw [beq_iff_eq]; omega
    have t2 : decide ((0 : Int) < (l.length : Int)) = false := by rw [decide_eq_false_iff_not]; omega
    have t3 : decide (0 < l.length) = false := by rw [decide_eq_false_iff_not]; omega
    have HL0 : Hid (l.length = 0) := Lib.hid (by omega)
    clear h0
    obtain ⟨st, hst⟩ : ∃ st, acSt L l = st := ⟨_, rfl⟩
    rw [hst] at hst0
    have HSTE : Hid (acSt L l = st) := Lib.hid hst
    clear hst
    go_enter Try.func38, Try.ntmps38
    go_wp2_with fail
    refine (E0.out _ _ (HR.out.below HB.out rfl)).mono ?_
    rintro e w1 ⟨G, rfl, oG, b1⟩
    have HT := Lib.hid (HB.out.trans (b1.mono HB.out.size))
    have HK1 := Lib.hid (blk_keep HB1.out b1 (by simp))
    have HK0 := Lib.hid (blk_keep HB0.out b1 (by simp; omega))
    have hs1 : w.heap.size + 2 ≤ w1.heap.size := by have := b1.size; simpa using this
    clear b1
    obtain ⟨gx, gcx, rfl⟩ := (Rs.of_own oG).shape
    clear oG
    go_wp2_with fail
    refine (E1.out _).mono ?_
    rintro e w2 ⟨rfl, rfl⟩
    have w3e : w2 = w2 := rfl
    obtain ⟨c0, c1, c2⟩ := blk_cell3 HK0.out
    subst hst0
    go_wp2_with fail
    have HT9 := HT
    have HK9 := HK0
    have HR9 := HK1
    have hs9 := hs1
    clear HT HK0 HK1 hs1 c0 c1 c2 t1 t2 t3
    generalize w2 = W0 at *
    have HRC := Lib.hid (fun W (hW : Below W0.heap.size W0 W) => HR.out.below (HT9.out.trans (hW.mono HT9.out.size)) rfl)
    have HKS : Hid (∀ W, Below W0.heap.size W0 W → Below W0.heap.size W0 W ∧ W.cell? ⟨w.heap.size, 0, none⟩ = some (.int .i64 L) ∧ W.cell? ⟨w.heap.size, 1, none⟩ = some (.int .i64 S) ∧ W.cell? ⟨w.heap.size, 2, none⟩ = some (.slice ao l.length ca)) := Lib.hid (fun W hW => by
      obtain ⟨d0, d1, d2⟩ := blk_cell3 (blk_keep HK9.out hW (by omega))
      exact ⟨hW, d0, d1, d2⟩)
    obtain ⟨_, c0, c1, c2⟩ := HKS.out W0 (Below.refl _ _)
    have hdr : W0.drew.heap.size = W0.heap.size := rfl
    go_cut [10] from 43 to 53 (fun p10 wx => ∃ (b10 gg cap : Nat), p10 = .pointer (some ⟨b10, 0, none⟩) ∧ Hid ((W0.heap.size ≤ b10 ∧ W0.heap.size ≤ gg ∧ gg ≠ b10) ∧ Below W0.heap.size W0 wx ∧ wx.heap[b10]? = some (.cells #[.int .i64 L, .int .i64 S, .slice (some ⟨gg, 0, none⟩) (l.length + 1) cap] 55 (0, 0)) ∧ wx.ownsRow W0.heap.size 3 1 (.slice (some ⟨gg, 0, none⟩) (l.length + 1) cap) (l.length + 1) (intVs (l ++ [0]))))
    case first =>
      as_aux_lemma =>
      go_region_held3 (fun w' => Below W0.heap.size W0 w' ∧ w'.cell? ⟨w.heap.size, 0, none⟩ = some (.int .i64 L) ∧ w'.cell? ⟨w.heap.size, 1, none⟩ = some (.int .i64 S) ∧ w'.cell? ⟨w.heap.size, 2, none⟩ = some (.slice ao l.length ca))
        (exact HKS.out _ (by first | exact below_all3 B3T (by first | exact Nat.le_refl _ | (have := B1T.size; omega) | fail) _ _ _ | ((repeat (first | exact B3T | exact B1T | exact Below.refl _ _ | refine Below.drew ?_ | refine below_al ?_ _)); first | done | fail) | fail))
        (first
          | (go_at_call 82; refine (cloneI_c _ l _ (HRC.out _ (by (repeat (first | exact B3T | exact B1T | exact Below.refl _ _ | refine Below.drew ?_ | refine below_al ?_ _)); first | done | fail)) (by omega)).mono ?_; rintro e W1 ⟨g1, rfl, o1, b1⟩; have B1T : Below W0.heap.size W0 W1 := bel_then (by (repeat (first | exact B3T | exact B1T | exact Below.refl _ _ | refine Below.drew ?_ | refine below_al ?_ _)); first | done | fail) b1; have OM1 : W1.ownsRow W0.heap.size 3 1 g1 l.length (intVs l) := own_mono o1 (by first | exact Nat.le_refl _ | (simp; done) | (simp; omega)))
          | (refine step_append_lies _ (by rfl) _ _ _ (by rfl) W0.heap.size 3 i0 (.int .i64 0) 1 8 Try.underlying49 hi hz0 hz1 hz2 rfl (by omega) g1 l.length (intVs l) (by rfl) (by repeat (first | exact OM1 | refine World.ownsRow.alloc ?_ _)) _ 1 1 [.int .i64 0] (by rfl) (by rfl) (World.news_of_block (cs := #[.int .i64 0]) (t := 3) (fr := (0, 0)) (by (repeat (first | exact new_at _ _ _ (by first | rfl | (simp; done) | fail) | refine blk_stay ?_ | refine blk_kept ?_ b1)); first | done | fail)) (by simp [Value.oneCell']) (by omega) (by unfold maxLen; omega) (by omega) (by have := B1T.size; first | exact this | (simp; omega)) _ (by rfl) ?_; intro gg cap W3 o3 hgrow hat hlt3; have B3T : Below W0.heap.size W0 W3 := bel_grow (by (repeat (first | exact B3T | exact B1T | exact Below.refl _ _ | refine Below.drew ?_ | refine below_al ?_ _)); first | done | fail) hgrow (fun j hj => (OM1.lt j hj).1); first | (have NE : some (W0.heap.size) ≠ g1.ownBlock := (fun e => by have h := o1.lt _ e.symm; simp at h; first | done | omega | fail); have KB : W3.heap[W0.heap.size]? = some (.cells #[.int .i64 0, .int .i64 0, .slice none 0 0] 55 (0, 0)) := grow_kept (by (repeat (first | exact new_at _ _ _ (by first | rfl | (simp; done) | fail) | refine blk_stay ?_ | refine blk_kept ?_ b1)); first | done | fail) hgrow NE; have NQ : gg ≠ W0.heap.size := nq_of hat NE (blk_lt (o := (.cells #[.int .i64 0, .int .i64 0, .slice none 0 0] 55 (0, 0))) (by (repeat (first | exact new_at _ _ _ (by first | rfl | (simp; done) | fail) | refine blk_stay ?_ | refine blk_kept ?_ b1)); first | done | fail)); obtain ⟨r0, r1, r2⟩ := blk_cell3 KB; obtain ⟨s0, s1, s2⟩ := blk_froz3 KB) | (have NE : some (W0.heap.size + 1) ≠ g1.ownBlock := (fun e => by have h := o1.lt _ e.symm; simp at h; first | done | omega | fail); have KB : W3.heap[W0.heap.size + 1]? = some (.cells #[.int .i64 0, .int .i64 0, .slice none 0 0] 55 (0, 0)) := grow_kept (by (repeat (first | exact new_at _ _ _ (by first | rfl | (simp; done) | fail) | refine blk_stay ?_ | refine blk_kept ?_ b1)); first | done | fail) hgrow NE; have NQ : gg ≠ W0.heap.size + 1 := nq_of hat NE (blk_lt (o := (.cells #[.int .i64 0, .int .i64 0, .slice none 0 0] 55 (0, 0))) (by (repeat (first | exact new_at _ _ _ (by first | rfl | (simp; done) | fail) | refine blk_stay ?_ | refine blk_kept ?_ b1)); first | done | fail)); obtain ⟨r0, r1, r2⟩ := blk_cell3 KB; obtain ⟨s0, s1, s2⟩ := blk_froz3 KB) | (have NE : some (W1.heap.size) ≠ g1.ownBlock := (fun e => by have h := o1.lt _ e.symm; simp at h; first | done | omega | fail); have KB : W3.heap[W1.heap.size]? = some (.cells #[.int .i64 0, .int .i64 0, .slice none 0 0] 55 (0, 0)) := grow_kept (by (repeat (first | exact new_at _ _ _ (by first | rfl | (simp; done) | fail) | refine blk_stay ?_ | refine blk_kept ?_ b1)); first | done | fail) hgrow NE; have NQ : gg ≠ W1.heap.size := nq_of hat NE (blk_lt (o := (.cells #[.int .i64 0, .int .i64 0, .slice none 0 0] 55 (0, 0))) (by (repeat (first | exact new_at _ _ _ (by first | rfl | (simp; done) | fail) | refine blk_stay ?_ | refine blk_kept ?_ b1)); first | done | fail)); obtain ⟨r0, r1, r2⟩ := blk_cell3 KB; obtain ⟨s0, s1, s2⟩ := blk_froz3 KB) | (have NE : some (W1.heap.size + 1) ≠ g1.ownBlock := (fun e => by have h := o1.lt _ e.symm; simp at h; first | done | omega | fail); have KB : W3.heap[W1.heap.size + 1]? = some (.cells #[.int .i64 0, .int .i64 0, .slice none 0 0] 55 (0, 0)) := grow_kept (by (repeat (first | exact new_at _ _ _ (by first | rfl | (simp; done) | fail) | refine blk_stay ?_ | refine blk_kept ?_ b1)); first | done | fail) hgrow NE; have NQ : gg ≠ W1.heap.size + 1 := nq_of hat NE (blk_lt (o := (.cells #[.int .i64 0, .int .i64 0, .slice none 0 0] 55 (0, 0))) (by (repeat (first | exact new_at _ _ _ (by first | rfl | (simp; done) | fail) | refine blk_stay ?_ | refine blk_kept ?_ b1)); first | done | fail)); obtain ⟨r0, r1, r2⟩ := blk_cell3 KB; obtain ⟨s0, s1, s2⟩ := blk_froz3 KB) | skip)
          | fail)
      all_goals (go_wp2_with fail)
      all_goals go_meet
      all_goals (case rel =>
        have o4 : W3.ownsRow W0.heap.size 3 1 (.slice (some ⟨gg, 0, none⟩) (l.length + 1) cap) (l.length + 1) (intVs (l ++ [0])) := by rw [iv_snoc]; exact o3
        have hgl := (o4.lt gg rfl).1
        first
        | exact ⟨_, gg, cap, rfl, Lib.hid ⟨⟨B3T.size, hgl, by omega⟩, below_al B3T _, (by first | exact blk_new3 _ _ _ _ _ | exact new_at _ _ _ (by simp)), o4.alloc _⟩⟩
        | exact ⟨_, gg, cap, rfl, Lib.hid ⟨⟨(by have := B1T.size; first | exact Nat.le_refl _ | omega), hgl, NQ⟩, below_all3 B3T (by have := B1T.size; first | exact Nat.le_refl _ | omega) _ _ _, blk_all3 KB, own_by o4 (grown_all3 _ _ _ _ _) (fun h => by simp [Value.ownBlock] at h; exact NQ h)⟩⟩)
    case rest =>
      obtain ⟨b10, gg, cap, rfl, HC9⟩ := hcut
      obtain ⟨⟨hb10, hgg, hng⟩, hbc, K10, o10⟩ := HC9.out
      have HTc := Lib.hid (HT9.out.trans (hbc.mono HT9.out.size))
      have HR1 := Lib.hid (blk_keep HR9.out hbc (by omega))
      have HK10 := Lib.hid K10
      have hlen : (l ++ [0]).length = l.length + 1 := by simp
      have HNW : Hid (srt (l ++ [0]) = acNew L l) := Lib.hid (by unfold acNew; rw [HSTE.out])
      have HO10 : Hid (wc.ownsRow W0.heap.size 3 1 (.slice (some ⟨gg, 0, none⟩) (l ++ [0]).length cap) (l ++ [0]).length (intVs (l ++ [0]))) := Lib.hid (by rw [hlen]; exact o10)
      have HLEN := Lib.hid hlen
      have HNL := Lib.hid (acNew_len L l)
      have hszc := hbc.size
      have hl10 := blk_lt K10
      obtain ⟨d0, d1, d2⟩ := blk_cell3 K10
      clear HC9 K10 o10 hlen c0 c1 c2 HKS HRC hbc
      go_wp2_with fail
      rw [← HLEN.out]
      refine (sortJ_c _ (l ++ [0]) _ W0.heap.size HO10.out (by rw [HLEN.out]; omega)).mono ?_
      rintro e w4 ⟨rfl, o4, g4⟩
      rw [HNW.out, HLEN.out] at o4
      rw [HLEN.out] at g4
      have K4 : w4.heap[b10]? = some (.cells #[.int .i64 L, .int .i64 S, .slice (some ⟨gg, 0, none⟩) (l.length + 1) cap] 55 (0, 0)) := (g4.block b10 hl10 (fun e => by simp [Value.ownBlock] at e; omega)).trans HK10.out
      have HR4 := Lib.hid ((g4.block (w.heap.size + 1) (by omega) (fun e => by simp [Value.ownBlock] at e; omega)).trans HR1.out)
      have HT4 := Lib.hid (HTc.out.grown g4 HTc.out.size (fun j hj => by simp [Value.ownBlock] at hj; omega))
      have hs4 := g4.size
      have HO4 := Lib.hid o4
      rw [HLEN.out]
      clear d0 d1 d2 o4 g4
      obtain ⟨d0, d1, d2⟩ := blk_cell3 K4
      have HK4 := Lib.hid K4
      clear K4
      have ES := Lib.hid (implSmallestGap_c L S _ (acNew L l) w4 (Rd.of_own HO4.out) (by rw [HNL.out]; omega))
      cases hv : cirV L S (acNew L l) with
      | false =>
        have hsg : sgOk L S (acNew L l) = false := by unfold sgOk; rw [hv]; rfl
        rw [sg_no hsg, hsg] at ES
        have HD : Hid (acOk L S l g = false) := Lib.hid (by rw [HDD.out, hv]; rfl)
        have HN := Lib.hid (ac_no HD.out)
        clear hv hsg
        go_wp2_with fail
        refine ES.out.mono ?_
        rintro e w5 ⟨rfl, b5⟩
        have HT5 := Lib.hid (HT4.out.trans (b5.mono HT4.out.size))
        have HR5 := Lib.hid (blk_keep HR4.out b5 (by omega))
        clear b5 d0 d1 d2
        have KZ := HR5.out
        obtain ⟨r0, r1, r2⟩ := blk_cell3 KZ
        obtain ⟨s0, s1, s2⟩ := blk_froz3 KZ
        have Z := blk_all3 (x := .int .i64 0) (y := .int .i64 0) (z := .slice none 0 0) KZ
        obtain ⟨z0, z1, z2⟩ := blk_cell3 Z
        have Z0 := Lib.hid z0
        have Z1 := Lib.hid z1
        have Z2 := Lib.hid z2
        have HTF := Lib.hid (below_all3 HT5.out (b := w.heap.size + 1) (by omega) (.int .i64 0) (.int .i64 0) (.slice none 0 0))
        clear Z z0 z1 z2 KZ
        go_wp2
        refine bodyPost_ret (v := .tuple #[.agg #[.int .i64 0, .int .i64 0, .slice none 0 0], .bool false]) (by simp [results, Try.results38, go_sem, Z0.out, Z1.out, Z2.out]) rfl (cirR_no HN.out HD.out HTF.out)
      | true =>
        have hsg : sgOk L S (acNew L l) = true := by unfold sgOk; rw [hv, HNL.out]; simp
        have hsv := sg_yes hsg
        rw [HNL.out, Nat.add_sub_cancel] at hsv
        rw [hsv, hsg] at ES
        have hdd : acOk L S l g = decide (g ≤ leastTo (gapAt L (acNew L l)) l.length) := by rw [HDD.out, hv, Bool.true_and]
        generalize leastTo (gapAt L (acNew L l)) l.length = Q at *
        by_cases hq : Q < g
        · have HD : Hid (acOk L S l g = false) := Lib.hid (by rw [hdd, decide_eq_false (by omega)])
          have HN := Lib.hid (ac_no HD.out)
          have t3 : decide (Q < g) = true := by simpa using hq
          clear hv hsg hsv hdd hq
          go_wp2_with fail
          refine ES.out.mono ?_
          rintro e w5 ⟨rfl, b5⟩
          have HT5 := Lib.hid (HT4.out.trans (b5.mono HT4.out.size))
          have HR5 := Lib.hid (blk_keep HR4.out b5 (by omega))
          clear b5 d0 d1 d2
          have KZ := HR5.out
          obtain ⟨r0, r1, r2⟩ := blk_cell3 KZ
          obtain ⟨s0, s1, s2⟩ := blk_froz3 KZ
          have Z := blk_all3 (x := .int .i64 0) (y := .int .i64 0) (z := .slice none 0 0) KZ
          obtain ⟨z0, z1, z2⟩ := blk_cell3 Z
          have Z0 := Lib.hid z0
          have Z1 := Lib.hid z1
          have Z2 := Lib.hid z2
          have HTF := Lib.hid (below_all3 HT5.out (b := w.heap.size + 1) (by omega) (.int .i64 0) (.int .i64 0) (.slice none 0 0))
          clear Z z0 z1 z2 KZ
          go_wp2
          refine bodyPost_ret (v := .tuple #[.agg #[.int .i64 0, .int .i64 0, .slice none 0 0], .bool false]) (by simp [results, Try.results38, go_sem, Z0.out, Z1.out, Z2.out]) rfl (cirR_no HN.out HD.out HTF.out)
        · have HD : Hid (acOk L S l g = true) := Lib.hid (by rw [hdd, decide_eq_true (by omega)])
          have HY := Lib.hid (ac_yes HD.out)
          have t3 : decide (Q < g) = false := by simpa using hq
          clear hv hsg hsv hdd hq
          go_wp2_with fail
          refine ES.out.mono ?_
          rintro e w5 ⟨rfl, b5⟩
          have HT5 := Lib.hid (HT4.out.trans (b5.mono HT4.out.size))
          have HR5 := Lib.hid (blk_keep HR4.out b5 (by omega))
          have HO5 := Lib.hid (own_by (b := w.heap.size + 1) (own_mono (owns_below HO4.out b5) (show w.heap.size ≤ W0.heap.size by omega)) (grown_all3 w5 (w.heap.size + 1) (.int .i64 L) (.int .i64 S) (.slice (some ⟨gg, 0, none⟩) (l.length + 1) cap)) (fun h => by simp [Value.ownBlock] at h; omega))
          clear d0 d1 d2
          obtain ⟨d0, d1, d2⟩ := blk_cell3 (w := w5) (b := b10) (by exact blk_keep (B := w4.heap.size) HK4.out b5 (by omega))
          clear b5
          have KZ := HR5.out
          obtain ⟨r0, r1, r2⟩ := blk_cell3 KZ
          obtain ⟨s0, s1, s2⟩ := blk_froz3 KZ
          have Z := blk_all3 (x := .int .i64 L) (y := .int .i64 S) (z := .slice (some ⟨gg, 0, none⟩) (l.length + 1) cap) KZ
          obtain ⟨z0, z1, z2⟩ := blk_cell3 Z
          have Z0 := Lib.hid z0
          have Z1 := Lib.hid z1
          have Z2 := Lib.hid z2
          have HTF := Lib.hid (below_all3 HT5.out (b := w.heap.size + 1) (by omega) (.int .i64 L) (.int .i64 S) (.slice (some ⟨gg, 0, none⟩) (l.length + 1) cap))
          clear Z z0 z1 z2 KZ
          go_wp2
          refine bodyPost_ret (v := .tuple #[.agg #[.int .i64 L, .int .i64 S, .slice (some ⟨gg, 0, none⟩) (l.length + 1) cap], .bool true]) (by simp [results, Try.results38, go_sem, Z0.out, Z1.out, Z2.out]) rfl (⟨_, by rw [HY.out.1, HY.out.2.1, HD.out], by rw [HY.out.2.2, HNL.out]; exact HO5.out, HTF.out⟩)
end Go.Proofs.Ytmmjbdffpgohdaa
