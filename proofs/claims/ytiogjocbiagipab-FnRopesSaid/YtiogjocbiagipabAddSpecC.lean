/- The walk of spec.AddDamage. Condition: sizes. -/
import Derived.Test.YtiogjocbiagipabAddMath
import Derived.Test.YtiogjocbiagipabAppAny
import Derived.Test.YtiogjocbiagipabGoodW
import Derived.Deep.RegionHeld3
import Derived.StillTailTactics
namespace Go.Proofs.Ytiogjocbiagipab
open Go.RowKit
set_option linter.unusedVariables false
theorem ret_v {v : Value} {p q : Bool} (g : p = q) : Ending.returned (.tuple #[v, .bool p]) = .returned (.tuple #[v, .bool q]) := by rw [g]
theorem frozen_lit (w : World) (cs : Array Value) (t : TypeId) (g i : Nat) (hg : g = w.heap.size) : (w.alloc (.cells cs t)).frozen? ⟨g, i, none⟩ = false := World.frozen?_alloc_at (w := w) cs t g i hg
set_option maxRecDepth 100000 in
set_option maxHeartbeats 8000000 in
theorem specAddDamage_c (k : RK) (v : Value) (l : List Dmg) (d : Dmg) (w : World) (B : Nat) (ho : w.ownsRow B 34 3 v l.length (dmgs l)) (hn : l.length ≤ 1048576) :
    Calls Try.prog 89 #[.agg #[.int .i64 k.i, .int .i64 k.s, .int .i64 k.w, .int .i64 k.g, .int .i64 k.p], v, .agg #[.int .i64 d.a, .int .i64 d.s, .int .i64 d.w]] w fun e w' => ∃ g, e = .returned (.tuple #[g, .bool (adOk k l d)]) ∧ w'.ownsRow w.heap.size 34 3 g (adR k l d).length (dmgs (adR k l d)) ∧ Below w.heap.size w w' := by
  obtain ⟨i0, hi, hz0, hz1, hz2⟩ := info_parts Try.infoDmg
  have HO := Lib.hid ho
  rcases own_form ho with ⟨h0, rfl⟩ | ⟨g, ca, rfl, hBg, hgw, hnc, hcm⟩
  · clear ho
    have H0 := Lib.hid h0
    go_enter Try.func89, Try.ntmps89
    go_wp2_with fail
    have HT : Hid (Below w.heap.size w ((w.alloc (.cells #[.int .i64 k.i, .int .i64 k.s, .int .i64 k.w, .int .i64 k.g, .int .i64 k.p] 25)).alloc (.cells #[.int .i64 d.a, .int .i64 d.s, .int .i64 d.w] 34))) := Lib.hid (((Below.refl _ _).alloc (Nat.le_refl _) _).alloc (by simp) _)
    have HBK : Hid (∀ W, Below (w.heap.size + 2) ((w.alloc (.cells #[.int .i64 k.i, .int .i64 k.s, .int .i64 k.w, .int .i64 k.g, .int .i64 k.p] 25)).alloc (.cells #[.int .i64 d.a, .int .i64 d.s, .int .i64 d.w] 34)) W → W.cell? ⟨w.heap.size, 0, none⟩ = some (.int .i64 k.i) ∧ W.cell? ⟨w.heap.size, 1, none⟩ = some (.int .i64 k.s) ∧ W.cell? ⟨w.heap.size, 2, none⟩ = some (.int .i64 k.w) ∧ W.cell? ⟨w.heap.size, 3, none⟩ = some (.int .i64 k.g) ∧ W.cell? ⟨w.heap.size, 4, none⟩ = some (.int .i64 k.p)) := Lib.hid (fun W h => box_RK w k _ _ rfl W (((Below.refl _ _).alloc (by simp) _).trans (h.mono (by simp))))
    have HBD : Hid (∀ W, Below (w.heap.size + 2) ((w.alloc (.cells #[.int .i64 k.i, .int .i64 k.s, .int .i64 k.w, .int .i64 k.g, .int .i64 k.p] 25)).alloc (.cells #[.int .i64 d.a, .int .i64 d.s, .int .i64 d.w] 34)) W → W.cell? ⟨w.heap.size + 1, 0, none⟩ = some (.int .i64 d.a) ∧ W.cell? ⟨w.heap.size + 1, 1, none⟩ = some (.int .i64 d.s) ∧ W.cell? ⟨w.heap.size + 1, 2, none⟩ = some (.int .i64 d.w)) := Lib.hid (fun W h => box_Dmg (w.alloc (.cells #[.int .i64 k.i, .int .i64 k.s, .int .i64 k.w, .int .i64 k.g, .int .i64 k.p] 25)) d _ _ (by simp) W h)
    have HFD : Hid (∀ W, Below (w.heap.size + 2) ((w.alloc (.cells #[.int .i64 k.i, .int .i64 k.s, .int .i64 k.w, .int .i64 k.g, .int .i64 k.p] 25)).alloc (.cells #[.int .i64 d.a, .int .i64 d.s, .int .i64 d.w] 34)) W → W.frozen? ⟨w.heap.size + 1, 2, none⟩ = false) := Lib.hid (fun W h => (World.frozen?_of_block (h.block _ (by simp))).trans (frozen_lit (w.alloc (.cells #[.int .i64 k.i, .int .i64 k.s, .int .i64 k.w, .int .i64 k.g, .int .i64 k.p] 25)) _ _ _ _ (by simp)))
    have hs0 : ((w.alloc (.cells #[.int .i64 k.i, .int .i64 k.s, .int .i64 k.w, .int .i64 k.g, .int .i64 k.p] 25)).alloc (.cells #[.int .i64 d.a, .int .i64 d.s, .int .i64 d.w] 34)).heap.size = w.heap.size + 2 := by simp
    generalize (w.alloc (.cells #[.int .i64 k.i, .int .i64 k.s, .int .i64 k.w, .int .i64 k.g, .int .i64 k.p] 25)).alloc (.cells #[.int .i64 d.a, .int .i64 d.s, .int .i64 d.w] 34) = W0 at *
    refine (l3Good_c k _ l _ (Rs.of_own (owns_below HO.out HT.out)) hn).mono ?_
    rintro e w1 ⟨rfl, b1⟩
    have HB1 : Hid (Below (w.heap.size + 2) W0 w1) := Lib.hid (by rw [← hs0]; exact b1)
    have HT1 : Hid (Below w.heap.size w w1) := Lib.hid (HT.out.trans (b1.mono (by omega)))
    clear b1
    cases hg : good k l with
    | false =>
      have HN := Lib.hid (ad_not1 (k := k) (l := l) (d := d) (.inl hg))
      have HR0 := Lib.hid (ad_no HN.out)
      go_wp2
      go_ret2
      refine ⟨_, ret_v HN.out.symm, ?_, HT1.out.alloc HT1.out.size _⟩
      rw [HR0.out]
      exact World.ownsRow_made w1 #[] 0 HT1.out.size (by decide) rfl
    | true =>
      obtain ⟨d0, d1, d2⟩ := HBD.out _ HB1.out
      by_cases h1w : 1 ≤ d.w
      · have HGB := Lib.hid hg
        have hlw : ¬ d.w < 1 := by omega
        have hsz1 := HB1.out.size
        have hpn := posn_le l d
        have hp0 : posn l d = 0 := by omega
        have HF := Lib.hid (show fnd l d = false by simp [fnd, hp0]; intro h; omega)
        have HAN : Hid (addL l d = l.take 0 ++ ([d] ++ l.drop 0)) := Lib.hid (by rw [addL_no HF.out, hp0])
        clear hg hpn hp0
        go_wp2
        go_loopw [8] (fun i wr => ∃ m : Nat, i = .int .i64 0 ∧ wr = w1.drewN m) (fun i _ => 0)
        case atStart => exact ⟨0, rfl, rfl⟩
        case round =>
          obtain ⟨m, rfl, rfl⟩ := hrel
          go_wp2_with fail
          go_quiet (fail)
          have HT2 : Hid (Below w.heap.size w ((w1.drewN m).drewN nq)) := Lib.hid (below_drewN (below_drewN HT1.out _) _)
          have z0 : ((w1.drewN m).drewN nq).cell? ⟨w.heap.size + 1, 0, none⟩ = some (.int .i64 d.a) := d0
          have z1 : ((w1.drewN m).drewN nq).cell? ⟨w.heap.size + 1, 1, none⟩ = some (.int .i64 d.s) := d1
          have z2 : ((w1.drewN m).drewN nq).cell? ⟨w.heap.size + 1, 2, none⟩ = some (.int .i64 d.w) := d2
          have zf : ((w1.drewN m).drewN nq).frozen? ⟨w.heap.size + 1, 2, none⟩ = false := HFD.out _ (below_drewN (below_drewN HB1.out m) nq)
          have HKY := Lib.hid (HBK.out _ (below_drewN (below_drewN HB1.out m) nq))
          have hsz2 : w.heap.size + 2 ≤ ((w1.drewN m).drewN nq).heap.size := by show _ ≤ w1.heap.size; omega
          clear d0 d1 d2
          generalize (w1.drewN m).drewN nq = w2 at *
          go_wp2_with fail
          go_quiet (fail)
          go_wp2_with fail
          have HTA : Hid (Below w.heap.size w (w2.drewN nq)) := Lib.hid (below_drewN HT2.out _)
          have D0 : (w2.drewN nq).cell? ⟨w.heap.size + 1, 0, none⟩ = some (.int .i64 d.a) := z0
          have D1 : (w2.drewN nq).cell? ⟨w.heap.size + 1, 1, none⟩ = some (.int .i64 d.s) := z1
          have D2 : (w2.drewN nq).cell? ⟨w.heap.size + 1, 2, none⟩ = some (.int .i64 d.w) := z2
          obtain ⟨y0, y1, y2, y3, y4⟩ : (w2.drewN nq).cell? ⟨w.heap.size, 0, none⟩ = some (.int .i64 k.i) ∧ (w2.drewN nq).cell? ⟨w.heap.size, 1, none⟩ = some (.int .i64 k.s) ∧ (w2.drewN nq).cell? ⟨w.heap.size, 2, none⟩ = some (.int .i64 k.w) ∧ (w2.drewN nq).cell? ⟨w.heap.size, 3, none⟩ = some (.int .i64 k.g) ∧ (w2.drewN nq).cell? ⟨w.heap.size, 4, none⟩ = some (.int .i64 k.p) := HKY.out
          have hszA : w.heap.size + 2 ≤ (w2.drewN nq).heap.size := by show _ ≤ w2.heap.size; omega
          clear z0 z1 z2 zf HKY
          generalize w2.drewN nq = wA at *
          have HKA : Hid (∀ W, Below wA.heap.size wA W → W.cell? ⟨w.heap.size, 0, none⟩ = some (.int .i64 k.i) ∧ W.cell? ⟨w.heap.size, 1, none⟩ = some (.int .i64 k.s) ∧ W.cell? ⟨w.heap.size, 2, none⟩ = some (.int .i64 k.w) ∧ W.cell? ⟨w.heap.size, 3, none⟩ = some (.int .i64 k.g) ∧ W.cell? ⟨w.heap.size, 4, none⟩ = some (.int .i64 k.p)) := Lib.hid (fun W h => ⟨(h.cell (by show w.heap.size < _; omega)).trans y0, (h.cell (by show w.heap.size < _; omega)).trans y1, (h.cell (by show w.heap.size < _; omega)).trans y2, (h.cell (by show w.heap.size < _; omega)).trans y3, (h.cell (by show w.heap.size < _; omega)).trans y4⟩)
          clear y0 y1 y2 y3 y4
          have HKS : Hid (∀ W, Below wA.heap.size wA W → Below wA.heap.size wA W ∧ W.cell? ⟨w.heap.size + 1, 0, none⟩ = some (.int .i64 d.a) ∧ W.cell? ⟨w.heap.size + 1, 1, none⟩ = some (.int .i64 d.s) ∧ W.cell? ⟨w.heap.size + 1, 2, none⟩ = some (.int .i64 d.w)) := Lib.hid (fun W h => ⟨h, (h.cell (by show w.heap.size + 1 < _; omega)).trans D0, (h.cell (by show w.heap.size + 1 < _; omega)).trans D1, (h.cell (by show w.heap.size + 1 < _; omega)).trans D2⟩)
          have HOA := Lib.hid (owns_below HO.out HTA.out)
          have HS3 : Hid (∀ W, Below wA.heap.size wA W → 0 < 0 → ∃ ad : Addr, (none : Option Addr) = some ad ∧ ∀ j u, (dmgs (l.drop 0))[j]? = some u → W.cell? (ad.add j) = some u) := Lib.hid (fun W h hrn => by omega)
          have hlt1 : (dmgs (l.take 0)).length = 0 * 3 := dmgs_take_len l (0) (by omega)
          have hld : (dmgs (l.drop 0)).length = 0 * 3 := by rw [dmgs_len, List.length_drop]; omega
          have HP2 : Hid (((wA.alloc (.cells #[] 34)).alloc (.cells #[.int .i64 d.a, .int .i64 d.s, .int .i64 d.w] 34)).heap[wA.heap.size + 1]? = some (.cells #[.int .i64 d.a, .int .i64 d.s, .int .i64 d.w] 34)) := Lib.hid (by simpa using heap_alloc_new (wA.alloc (.cells #[] 34)) (.cells #[.int .i64 d.a, .int .i64 d.s, .int .i64 d.w] 34))
          have HP3 : Hid (((wA.alloc (.cells #[.int .i64 d.a, .int .i64 d.s, .int .i64 d.w] 34)).alloc (.cells #[] 34)).heap[wA.heap.size]? = some (.cells #[.int .i64 d.a, .int .i64 d.s, .int .i64 d.w] 34)) := Lib.hid ((heap_alloc_old (wA.alloc (.cells #[.int .i64 d.a, .int .i64 d.s, .int .i64 d.w] 34)) _ (by simp)).trans (heap_alloc_new wA _))
          have HOR3 : Hid (((wA.alloc (.cells #[.int .i64 d.a, .int .i64 d.s, .int .i64 d.w] 34)).alloc (.cells #[] 34)).ownsRow wA.heap.size 34 3 (.slice (some ⟨wA.heap.size + 1, 0, none⟩) 0 0) 0 []) := Lib.hid (by
            have h := World.ownsRow_made (wA.alloc (.cells #[.int .i64 d.a, .int .i64 d.s, .int .i64 d.w] 34)) #[] 0 (base := wA.heap.size) (e := 34) (size := 3) (by simp) (by decide) rfl
            rw [show (wA.alloc (.cells #[.int .i64 d.a, .int .i64 d.s, .int .i64 d.w] 34)).heap.size = wA.heap.size + 1 by simp] at h
            exact h)
          have H1a := Lib.hid (dmgs_one_cell (l.take 0))
          have H1b := Lib.hid (dmgs_one_cell (l.drop 0))
          go_region_held3 (fun w' => Below wA.heap.size wA w' ∧ w'.cell? ⟨w.heap.size + 1, 0, none⟩ = some (.int .i64 d.a) ∧ w'.cell? ⟨w.heap.size + 1, 1, none⟩ = some (.int .i64 d.s) ∧ w'.cell? ⟨w.heap.size + 1, 2, none⟩ = some (.int .i64 d.w))
            (exact HKS.out _ (by (first
                | exact (Below.refl _ _).drew
                | exact Below.refl _ _
                | exact (Below.refl _ _).alloc (Nat.le_refl _) _
                | exact ((Below.refl _ _).alloc (Nat.le_refl _) _).drew
                | exact (((Below.refl _ _).alloc (Nat.le_refl _) _).alloc (by simp) _).drew
                | exact ((Below.refl _ _).alloc (Nat.le_refl _) _).alloc (by simp) _
                | (go_split_ands; refine Below.grown ?_ hgrow3 (Below.size (B := wA.heap.size) ?_) (fun k hk => (hown2'.lt k hk).1) <;> assumption)
                | (go_split_ands; refine Below.grown ?_ hgrow2 (Below.size (B := wA.heap.size) ?_) (fun k hk => (hown1'.lt k hk).1) <;> assumption)
                | (go_split_ands; refine Below.alloc ?_ (Below.size (B := wA.heap.size) ?_) _ <;> assumption)
                | (go_split_ands; refine Below.drew ?_; refine Below.alloc ?_ (Below.size (B := wA.heap.size) ?_) _ <;> assumption)
                | (go_split_ands; refine Below.grown ?_ hgrow1 (Below.size (B := wA.heap.size) ?_) (fun k hk => by simp [Value.ownBlock] at hk; omega) <;> assumption))))
            (first
              | (refine step_append_any _ (by rfl) _ _ _ (by rfl) wA.heap.size 34 i0 (.agg #[.int .i64 0, .int .i64 0, .int .i64 0]) 3 24 Try.underlying26 hi hz0 hz1 hz2 rfl (by omega) (.slice (some ⟨_, 0, none⟩) 0 0) 0 [] (by rfl) (by first | exact World.ownsRow_made wA #[] 0 (Nat.le_refl _) (by decide) rfl | exact (World.ownsRow_made wA #[] 0 (Nat.le_refl _) (by decide) rfl).alloc (.cells #[.int .i64 d.a, .int .i64 d.s, .int .i64 d.w] 34) | exact HOR3.out | fail) none 0 0 (dmgs (l.take 0)) (by rfl) hlt1 (fun h => absurd h (by omega)) H1a.out (by unfold maxLen; omega) (by omega) (by first | assumption | (simp; done) | (simp; omega) | fail) ?_; intro v1 wB hown1 hgrow1 hat1; have hzB : wA.heap.size ≤ wB.heap.size := by have h := hgrow1.size; simp at h; omega)
              | (refine step_append_any _ (by rfl) _ _ _ (by rfl) wA.heap.size 34 i0 (.agg #[.int .i64 0, .int .i64 0, .int .i64 0]) 3 24 Try.underlying26 hi hz0 hz1 hz2 rfl (by omega) v2 _ _ (by rfl) hown2 none 0 0 (dmgs (l.drop 0)) (by rfl) hld (HS3.out _ (by go_split_ands; assumption)) H1b.out (by unfold maxLen; omega) (by omega) (by first | assumption | (simp; done) | (simp; omega) | fail) ?_; have hown2' := hown2; intro v3 wD hown3 hgrow3 hat3; have hzD : wA.heap.size ≤ wD.heap.size := by have h := hgrow3.size; omega)
              | (refine step_append_any _ (by rfl) _ _ _ (by rfl) wA.heap.size 34 i0 (.agg #[.int .i64 0, .int .i64 0, .int .i64 0]) 3 24 Try.underlying26 hi hz0 hz1 hz2 rfl (by omega) v1 _ _ (by rfl) (by first | exact hown1 | exact hown1.alloc _ | fail) _ 1 1 [.int .i64 d.a, .int .i64 d.s, .int .i64 d.w] (by rfl) rfl (fun _ => ⟨_, rfl, World.news_of_block (cs := #[.int .i64 d.a, .int .i64 d.s, .int .i64 d.w]) (t := 34) (fr := (0, 0)) (by first
                  | exact (hgrow1.block (wA.heap.size + 1) (by simp) (by simp [Value.ownBlock])).trans HP2.out
                  | exact (hgrow1.block wA.heap.size (by simp <;> omega) (by simp [Value.ownBlock])).trans HP3.out
                  | exact heap_alloc_new wB _
                  | fail)⟩) (by simp [Value.oneCell']) (by unfold maxLen; omega) (by omega) (by first | assumption | (simp; done) | (simp; omega) | fail) ?_; have hown1' := hown1; intro v2 wC hown2 hgrow2 hat2; have hzC : wA.heap.size ≤ wC.heap.size := by have h := hgrow2.size; first | omega | (simp at h; omega))
              | fail)
          all_goals have hBD : Below wA.heap.size wA wD := by go_split_ands; assumption
          all_goals obtain ⟨y0, y1, y2, y3, y4⟩ := HKA.out _ hBD
          all_goals have HTD : Hid (Below w.heap.size w wD) := Lib.hid (HTA.out.trans (hBD.mono (by omega)))
          all_goals have HO3 : Hid (wD.ownsRow w.heap.size 34 3 v3 (addL l d).length (dmgs (addL l d))) := Lib.hid (by
            have e1 := HAN.out
            have hl : (addL l d).length = 0 + (0) + 1 + 0 := by rw [e1, List.length_append, List.length_append, List.length_take, List.length_drop, Nat.min_eq_left (by omega)]; have := H0.out; simp only [List.length_cons, List.length_nil]; omega
            have hx : dmgs (addL l d) = [] ++ dmgs (l.take (0)) ++ [.int .i64 d.a, .int .i64 d.s, .int .i64 d.w] ++ dmgs (l.drop (0)) := by rw [e1, dmgs_append, dmgs_append, dmgs_one]; simp only [List.nil_append, List.append_assoc]
            rw [hl, hx]
            exact own_mono hown3 (by omega))
          all_goals have hal := addL_len l d
          all_goals clear hown3 hown2 hown1 hgrow1 hgrow2 hgrow3
          all_goals go_wp2_with fail
          all_goals refine (l3Good_c k v3 (addL l d) wD (Rs.of_own HO3.out) (by omega)).mono ?_
          all_goals rintro e wE ⟨rfl, bE⟩
          all_goals have HTE := Lib.hid (HTD.out.trans (bE.mono HTD.out.size))
          all_goals have HOE := Lib.hid (owns_below HO3.out bE)
          all_goals clear bE
          all_goals cases hga : good k (addL l d)
          all_goals have HGA := Lib.hid hga
          all_goals clear hga
          all_goals go_wp2
          all_goals go_ret2
          all_goals first
            | (have HN : adOk k l d = true := by unfold adOk adIn; rw [HGA.out, HGB.out, decide_eq_true h1w]; rfl
               refine ⟨v3, ret_v HN.symm, ?_, HTE.out⟩
               rw [ad_yes HN]
               exact HOE.out)
            | (have HN : adOk k l d = false := by unfold adOk; rw [HGA.out, Bool.and_false]
               refine ⟨_, ret_v HN.symm, ?_, HTE.out.alloc HTE.out.size _⟩
               rw [ad_no HN]
               exact World.ownsRow_made wE #[] 0 HTE.out.size (by decide) rfl)
      · have hlw : d.w < 1 := by omega
        have HN := Lib.hid (ad_not1 (k := k) (l := l) (d := d) (.inr h1w))
        have HR0 := Lib.hid (ad_no HN.out)
        go_wp2
        go_ret2
        refine ⟨_, ret_v HN.out.symm, ?_, HT1.out.alloc HT1.out.size _⟩
        rw [HR0.out]
        exact World.ownsRow_made w1 #[] 0 HT1.out.size (by decide) rfl

  · have HL := Lib.hid (own_Dmg ho)
    clear ho
    go_enter Try.func89, Try.ntmps89
    go_wp2_with fail
    have HT : Hid (Below w.heap.size w ((w.alloc (.cells #[.int .i64 k.i, .int .i64 k.s, .int .i64 k.w, .int .i64 k.g, .int .i64 k.p] 25)).alloc (.cells #[.int .i64 d.a, .int .i64 d.s, .int .i64 d.w] 34))) := Lib.hid (((Below.refl _ _).alloc (Nat.le_refl _) _).alloc (by simp) _)
    have HBK : Hid (∀ W, Below (w.heap.size + 2) ((w.alloc (.cells #[.int .i64 k.i, .int .i64 k.s, .int .i64 k.w, .int .i64 k.g, .int .i64 k.p] 25)).alloc (.cells #[.int .i64 d.a, .int .i64 d.s, .int .i64 d.w] 34)) W → W.cell? ⟨w.heap.size, 0, none⟩ = some (.int .i64 k.i) ∧ W.cell? ⟨w.heap.size, 1, none⟩ = some (.int .i64 k.s) ∧ W.cell? ⟨w.heap.size, 2, none⟩ = some (.int .i64 k.w) ∧ W.cell? ⟨w.heap.size, 3, none⟩ = some (.int .i64 k.g) ∧ W.cell? ⟨w.heap.size, 4, none⟩ = some (.int .i64 k.p)) := Lib.hid (fun W h => box_RK w k _ _ rfl W (((Below.refl _ _).alloc (by simp) _).trans (h.mono (by simp))))
    have HBD : Hid (∀ W, Below (w.heap.size + 2) ((w.alloc (.cells #[.int .i64 k.i, .int .i64 k.s, .int .i64 k.w, .int .i64 k.g, .int .i64 k.p] 25)).alloc (.cells #[.int .i64 d.a, .int .i64 d.s, .int .i64 d.w] 34)) W → W.cell? ⟨w.heap.size + 1, 0, none⟩ = some (.int .i64 d.a) ∧ W.cell? ⟨w.heap.size + 1, 1, none⟩ = some (.int .i64 d.s) ∧ W.cell? ⟨w.heap.size + 1, 2, none⟩ = some (.int .i64 d.w)) := Lib.hid (fun W h => box_Dmg (w.alloc (.cells #[.int .i64 k.i, .int .i64 k.s, .int .i64 k.w, .int .i64 k.g, .int .i64 k.p] 25)) d _ _ (by simp) W h)
    have HFD : Hid (∀ W, Below (w.heap.size + 2) ((w.alloc (.cells #[.int .i64 k.i, .int .i64 k.s, .int .i64 k.w, .int .i64 k.g, .int .i64 k.p] 25)).alloc (.cells #[.int .i64 d.a, .int .i64 d.s, .int .i64 d.w] 34)) W → W.frozen? ⟨w.heap.size + 1, 2, none⟩ = false) := Lib.hid (fun W h => (World.frozen?_of_block (h.block _ (by simp))).trans (frozen_lit (w.alloc (.cells #[.int .i64 k.i, .int .i64 k.s, .int .i64 k.w, .int .i64 k.g, .int .i64 k.p] 25)) _ _ _ _ (by simp)))
    have hs0 : ((w.alloc (.cells #[.int .i64 k.i, .int .i64 k.s, .int .i64 k.w, .int .i64 k.g, .int .i64 k.p] 25)).alloc (.cells #[.int .i64 d.a, .int .i64 d.s, .int .i64 d.w] 34)).heap.size = w.heap.size + 2 := by simp
    generalize (w.alloc (.cells #[.int .i64 k.i, .int .i64 k.s, .int .i64 k.w, .int .i64 k.g, .int .i64 k.p] 25)).alloc (.cells #[.int .i64 d.a, .int .i64 d.s, .int .i64 d.w] 34) = W0 at *
    refine (l3Good_c k _ l _ (Rs.of_own (owns_below HO.out HT.out)) hn).mono ?_
    rintro e w1 ⟨rfl, b1⟩
    have HB1 : Hid (Below (w.heap.size + 2) W0 w1) := Lib.hid (by rw [← hs0]; exact b1)
    have HT1 : Hid (Below w.heap.size w w1) := Lib.hid (HT.out.trans (b1.mono (by omega)))
    clear b1
    cases hg : good k l with
    | false =>
      have HN := Lib.hid (ad_not1 (k := k) (l := l) (d := d) (.inl hg))
      have HR0 := Lib.hid (ad_no HN.out)
      go_wp2
      go_ret2
      refine ⟨_, ret_v HN.out.symm, ?_, HT1.out.alloc HT1.out.size _⟩
      rw [HR0.out]
      exact World.ownsRow_made w1 #[] 0 HT1.out.size (by decide) rfl
    | true =>
      obtain ⟨d0, d1, d2⟩ := HBD.out _ HB1.out
      by_cases h1w : 1 ≤ d.w
      · have HG := Lib.hid (good_yes hg)
        have h15 := HG.out.len
        have HGB := Lib.hid hg
        have hlw : ¬ d.w < 1 := by omega
        have hpn := posn_le l d
        have hsz1 := HB1.out.size
        have hgw1 : g < w1.heap.size := by omega
        clear hg
        go_wp2
        go_loopw [8] (fun i wr => ∃ j m : Nat, j ≤ posn l d ∧ i = .int .i64 j ∧ wr = w1.drewN m) (fun i _ => l.length - (intOf i).toNat)
        case atStart => exact ⟨0, 0, Nat.zero_le _, rfl, rfl⟩
        case round =>
          obtain ⟨j, m, hj, rfl, rfl⟩ := hrel
          by_cases hlt : j < posn l d
          · have hjl : j < l.length := by omega
            obtain ⟨c0, c1, c2⟩ := (HL.out.below HT1.out hgw) j hjl
            simp only [Nat.zero_add] at c0 c1 c2
            have hbf := (bef_iff _ _).1 (posn_lt l d j hlt)
            generalize gth l j = E at *
            by_cases ha : E.a < d.a
            · have t1 : decide (E.a < d.a) = true := by simpa using ha
              clear hbf
              go_wp2_with fail
              go_quiet (fail)
              go_wp2
              go_roundw
              case rel => exact ⟨j + 1, m + nq, by omega, by go_num, rfl⟩
              case measure => simp [intOf]; omega
            · have t1 : decide (E.a < d.a) = false := by simpa using ha
              have t2 : (E.a == d.a) = true := by rw [beq_iff_eq]; omega
              have t3 : decide (E.s < d.s) = true := by simp; omega
              clear hbf
              go_wp2_with fail
              go_quiet (fail)
              go_wp2
              go_roundw
              case rel => exact ⟨j + 1, m + nq, by omega, by go_num, rfl⟩
              case measure => simp [intOf]; omega
          · obtain rfl : j = posn l d := by omega
            have HC : posn l d = l.length ∨ (posn l d < l.length ∧ d.a < (gth l (posn l d)).a) ∨ (posn l d < l.length ∧ (gth l (posn l d)).a = d.a ∧ d.s < (gth l (posn l d)).s) ∨ (posn l d < l.length ∧ (gth l (posn l d)).a = d.a ∧ (gth l (posn l d)).s = d.s) := by
              by_cases h : posn l d = l.length
              · exact .inl h
              · have h1 := posn_at l d (by omega)
                have h2 : ¬ bef (gth l (posn l d)) d = true := by rw [h1]; exact Bool.false_ne_true
                rw [bef_iff] at h2
                omega
            rcases HC with hpe | ⟨hpl, hA⟩ | ⟨hpl, hA, hS⟩ | ⟨hpl, hA, hS⟩
            · have HF := Lib.hid (show fnd l d = false by simp [fnd, hpe])
              have HPE := Lib.hid hpe
              have t1 : decide ((l.length : Int) < (l.length : Int)) = false := by simp
              rw [hpe]
              clear hpe
              go_wp2_with fail
              go_quiet (fail)
              have HT2 : Hid (Below w.heap.size w ((w1.drewN m).drewN nq)) := Lib.hid (below_drewN (below_drewN HT1.out _) _)
              have z0 : ((w1.drewN m).drewN nq).cell? ⟨w.heap.size + 1, 0, none⟩ = some (.int .i64 d.a) := d0
              have z1 : ((w1.drewN m).drewN nq).cell? ⟨w.heap.size + 1, 1, none⟩ = some (.int .i64 d.s) := d1
              have z2 : ((w1.drewN m).drewN nq).cell? ⟨w.heap.size + 1, 2, none⟩ = some (.int .i64 d.w) := d2
              have zf : ((w1.drewN m).drewN nq).frozen? ⟨w.heap.size + 1, 2, none⟩ = false := HFD.out _ (below_drewN (below_drewN HB1.out m) nq)
              have HKY := Lib.hid (HBK.out _ (below_drewN (below_drewN HB1.out m) nq))
              have hsz2 : w.heap.size + 2 ≤ ((w1.drewN m).drewN nq).heap.size := by show _ ≤ w1.heap.size; omega
              clear d0 d1 d2
              generalize (w1.drewN m).drewN nq = w2 at *
              have hgw2 : g < w2.heap.size := by omega
              by_cases hca : ca = l.length
              · subst hca
                go_wp2_with fail
                go_quiet (fail)
                go_wp2_with fail
                have HTA : Hid (Below w.heap.size w (w2.drewN nq)) := Lib.hid (below_drewN HT2.out _)
                have D0 : (w2.drewN nq).cell? ⟨w.heap.size + 1, 0, none⟩ = some (.int .i64 d.a) := z0
                have D1 : (w2.drewN nq).cell? ⟨w.heap.size + 1, 1, none⟩ = some (.int .i64 d.s) := z1
                have D2 : (w2.drewN nq).cell? ⟨w.heap.size + 1, 2, none⟩ = some (.int .i64 d.w) := z2
                obtain ⟨y0, y1, y2, y3, y4⟩ : (w2.drewN nq).cell? ⟨w.heap.size, 0, none⟩ = some (.int .i64 k.i) ∧ (w2.drewN nq).cell? ⟨w.heap.size, 1, none⟩ = some (.int .i64 k.s) ∧ (w2.drewN nq).cell? ⟨w.heap.size, 2, none⟩ = some (.int .i64 k.w) ∧ (w2.drewN nq).cell? ⟨w.heap.size, 3, none⟩ = some (.int .i64 k.g) ∧ (w2.drewN nq).cell? ⟨w.heap.size, 4, none⟩ = some (.int .i64 k.p) := HKY.out
                have hszA : w.heap.size + 2 ≤ (w2.drewN nq).heap.size := by show _ ≤ w2.heap.size; omega
                clear z0 z1 z2 zf HKY
                generalize w2.drewN nq = wA at *
                have HKA : Hid (∀ W, Below wA.heap.size wA W → W.cell? ⟨w.heap.size, 0, none⟩ = some (.int .i64 k.i) ∧ W.cell? ⟨w.heap.size, 1, none⟩ = some (.int .i64 k.s) ∧ W.cell? ⟨w.heap.size, 2, none⟩ = some (.int .i64 k.w) ∧ W.cell? ⟨w.heap.size, 3, none⟩ = some (.int .i64 k.g) ∧ W.cell? ⟨w.heap.size, 4, none⟩ = some (.int .i64 k.p)) := Lib.hid (fun W h => ⟨(h.cell (by show w.heap.size < _; omega)).trans y0, (h.cell (by show w.heap.size < _; omega)).trans y1, (h.cell (by show w.heap.size < _; omega)).trans y2, (h.cell (by show w.heap.size < _; omega)).trans y3, (h.cell (by show w.heap.size < _; omega)).trans y4⟩)
                clear y0 y1 y2 y3 y4
                have HKS : Hid (∀ W, Below wA.heap.size wA W → Below wA.heap.size wA W ∧ W.cell? ⟨w.heap.size + 1, 0, none⟩ = some (.int .i64 d.a) ∧ W.cell? ⟨w.heap.size + 1, 1, none⟩ = some (.int .i64 d.s) ∧ W.cell? ⟨w.heap.size + 1, 2, none⟩ = some (.int .i64 d.w)) := Lib.hid (fun W h => ⟨h, (h.cell (by show w.heap.size + 1 < _; omega)).trans D0, (h.cell (by show w.heap.size + 1 < _; omega)).trans D1, (h.cell (by show w.heap.size + 1 < _; omega)).trans D2⟩)
                have HOA := Lib.hid (owns_below HO.out HTA.out)
                have HS1 : Hid (∀ W, Below wA.heap.size wA W → ∀ j u, (dmgs (l.take l.length))[j]? = some u → W.cell? ((⟨g, 0, none⟩ : Addr).add j) = some u) := Lib.hid (fun W h j u hu => (h.cell (by rw [gs_addr]; show g < _; omega)).trans (HOA.out.cells (g := g) rfl j u (by
                  have e : dmgs l = dmgs (l.take l.length) ++ dmgs (l.drop l.length) := by rw [← dmgs_append, List.take_append_drop]
                  rw [e, List.getElem?_append_left (List.getElem?_eq_some_iff.1 hu).1]; exact hu)))
                have HS3 : Hid (∀ W, Below wA.heap.size wA W → 0 < 0 → ∃ ad : Addr, ((some ⟨g, 0, none⟩) : Option Addr) = some ad ∧ ∀ j u, (dmgs (l.drop l.length))[j]? = some u → W.cell? (ad.add j) = some u) := Lib.hid (fun W h hrn => ⟨⟨g, l.length * 3, none⟩, by omega, fun j u hu => by
                  have h1 := HOA.out.cells (g := g) rfl (l.length * 3 + j) u (by
                    have e : dmgs l = dmgs (l.take l.length) ++ dmgs (l.drop l.length) := by rw [← dmgs_append, List.take_append_drop]
                    have hl : (dmgs (l.take l.length)).length = l.length * 3 := dmgs_take_len l _ (by omega)
                    rw [e, List.getElem?_append_right (by omega), hl, Nat.add_sub_cancel_left]; exact hu)
                  rw [gs_addr] at h1 ⊢
                  rw [h.cell (by show g < _; omega)]
                  simpa using h1⟩)
                have hlt1 : (dmgs (l.take l.length)).length = l.length * 3 := dmgs_take_len l (l.length) (by omega)
                have hld : (dmgs (l.drop l.length)).length = 0 * 3 := by rw [dmgs_len, List.length_drop] <;> first | done | (congr 1 <;> omega)
                have HP2 : Hid (((wA.alloc (.cells #[] 34)).alloc (.cells #[.int .i64 d.a, .int .i64 d.s, .int .i64 d.w] 34)).heap[wA.heap.size + 1]? = some (.cells #[.int .i64 d.a, .int .i64 d.s, .int .i64 d.w] 34)) := Lib.hid (by simpa using heap_alloc_new (wA.alloc (.cells #[] 34)) (.cells #[.int .i64 d.a, .int .i64 d.s, .int .i64 d.w] 34))
                have HP3 : Hid (((wA.alloc (.cells #[.int .i64 d.a, .int .i64 d.s, .int .i64 d.w] 34)).alloc (.cells #[] 34)).heap[wA.heap.size]? = some (.cells #[.int .i64 d.a, .int .i64 d.s, .int .i64 d.w] 34)) := Lib.hid ((heap_alloc_old (wA.alloc (.cells #[.int .i64 d.a, .int .i64 d.s, .int .i64 d.w] 34)) _ (by simp)).trans (heap_alloc_new wA _))
                have HOR3 : Hid (((wA.alloc (.cells #[.int .i64 d.a, .int .i64 d.s, .int .i64 d.w] 34)).alloc (.cells #[] 34)).ownsRow wA.heap.size 34 3 (.slice (some ⟨wA.heap.size + 1, 0, none⟩) 0 0) 0 []) := Lib.hid (by
                  have h := World.ownsRow_made (wA.alloc (.cells #[.int .i64 d.a, .int .i64 d.s, .int .i64 d.w] 34)) #[] 0 (base := wA.heap.size) (e := 34) (size := 3) (by simp) (by decide) rfl
                  rw [show (wA.alloc (.cells #[.int .i64 d.a, .int .i64 d.s, .int .i64 d.w] 34)).heap.size = wA.heap.size + 1 by simp] at h
                  exact h)
                have H1a := Lib.hid (dmgs_one_cell (l.take l.length))
                have H1b := Lib.hid (dmgs_one_cell (l.drop l.length))
                go_region_held3 (fun w' => Below wA.heap.size wA w' ∧ w'.cell? ⟨w.heap.size + 1, 0, none⟩ = some (.int .i64 d.a) ∧ w'.cell? ⟨w.heap.size + 1, 1, none⟩ = some (.int .i64 d.s) ∧ w'.cell? ⟨w.heap.size + 1, 2, none⟩ = some (.int .i64 d.w))
                  (exact HKS.out _ (by (first
                      | exact (Below.refl _ _).drew
                      | exact Below.refl _ _
                      | exact (Below.refl _ _).alloc (Nat.le_refl _) _
                      | exact ((Below.refl _ _).alloc (Nat.le_refl _) _).drew
                      | exact (((Below.refl _ _).alloc (Nat.le_refl _) _).alloc (by simp) _).drew
                      | exact ((Below.refl _ _).alloc (Nat.le_refl _) _).alloc (by simp) _
                      | (go_split_ands; refine Below.grown ?_ hgrow3 (Below.size (B := wA.heap.size) ?_) (fun k hk => (hown2'.lt k hk).1) <;> assumption)
                      | (go_split_ands; refine Below.grown ?_ hgrow2 (Below.size (B := wA.heap.size) ?_) (fun k hk => (hown1'.lt k hk).1) <;> assumption)
                      | (go_split_ands; refine Below.alloc ?_ (Below.size (B := wA.heap.size) ?_) _ <;> assumption)
                      | (go_split_ands; refine Below.drew ?_; refine Below.alloc ?_ (Below.size (B := wA.heap.size) ?_) _ <;> assumption)
                      | (go_split_ands; refine Below.grown ?_ hgrow1 (Below.size (B := wA.heap.size) ?_) (fun k hk => by simp [Value.ownBlock] at hk; omega) <;> assumption))))
                  (first
                    | (refine step_append_any _ (by rfl) _ _ _ (by rfl) wA.heap.size 34 i0 (.agg #[.int .i64 0, .int .i64 0, .int .i64 0]) 3 24 Try.underlying26 hi hz0 hz1 hz2 rfl (by omega) (.slice (some ⟨_, 0, none⟩) 0 0) 0 [] (by rfl) (by first | exact World.ownsRow_made wA #[] 0 (Nat.le_refl _) (by decide) rfl | exact (World.ownsRow_made wA #[] 0 (Nat.le_refl _) (by decide) rfl).alloc (.cells #[.int .i64 d.a, .int .i64 d.s, .int .i64 d.w] 34) | exact HOR3.out | fail) (some ⟨g, 0, none⟩) (l.length) l.length (dmgs (l.take l.length)) (by rfl) hlt1 (fun _ => ⟨_, rfl, HS1.out _ (by go_split_ands; assumption)⟩) H1a.out (by unfold maxLen; omega) (by omega) (by first | assumption | (simp; done) | (simp; omega) | fail) ?_; intro v1 wB hown1 hgrow1 hat1; have hzB : wA.heap.size ≤ wB.heap.size := by have h := hgrow1.size; simp at h; omega)
                    | (refine step_append_any _ (by rfl) _ _ _ (by rfl) wA.heap.size 34 i0 (.agg #[.int .i64 0, .int .i64 0, .int .i64 0]) 3 24 Try.underlying26 hi hz0 hz1 hz2 rfl (by omega) v2 _ _ (by rfl) hown2 (some ⟨g, 0, none⟩) 0 0 (dmgs (l.drop l.length)) (by rfl) hld (HS3.out _ (by go_split_ands; assumption)) H1b.out (by unfold maxLen; omega) (by omega) (by first | assumption | (simp; done) | (simp; omega) | fail) ?_; have hown2' := hown2; intro v3 wD hown3 hgrow3 hat3; have hzD : wA.heap.size ≤ wD.heap.size := by have h := hgrow3.size; omega)
                    | (refine step_append_any _ (by rfl) _ _ _ (by rfl) wA.heap.size 34 i0 (.agg #[.int .i64 0, .int .i64 0, .int .i64 0]) 3 24 Try.underlying26 hi hz0 hz1 hz2 rfl (by omega) v1 _ _ (by rfl) (by first | exact hown1 | exact hown1.alloc _ | fail) _ 1 1 [.int .i64 d.a, .int .i64 d.s, .int .i64 d.w] (by rfl) rfl (fun _ => ⟨_, rfl, World.news_of_block (cs := #[.int .i64 d.a, .int .i64 d.s, .int .i64 d.w]) (t := 34) (fr := (0, 0)) (by first
                        | exact (hgrow1.block (wA.heap.size + 1) (by simp) (by simp [Value.ownBlock])).trans HP2.out
                        | exact (hgrow1.block wA.heap.size (by simp <;> omega) (by simp [Value.ownBlock])).trans HP3.out
                        | exact heap_alloc_new wB _
                        | fail)⟩) (by simp [Value.oneCell']) (by unfold maxLen; omega) (by omega) (by first | assumption | (simp; done) | (simp; omega) | fail) ?_; have hown1' := hown1; intro v2 wC hown2 hgrow2 hat2; have hzC : wA.heap.size ≤ wC.heap.size := by have h := hgrow2.size; first | omega | (simp at h; omega))
                    | fail)
                all_goals have hBD : Below wA.heap.size wA wD := by go_split_ands; assumption
                all_goals obtain ⟨y0, y1, y2, y3, y4⟩ := HKA.out _ hBD
                all_goals have HTD : Hid (Below w.heap.size w wD) := Lib.hid (HTA.out.trans (hBD.mono (by omega)))
                all_goals have HO3 : Hid (wD.ownsRow w.heap.size 34 3 v3 (addL l d).length (dmgs (addL l d))) := Lib.hid (by
                  have e1 := (show addL l d = l.take l.length ++ ([d] ++ l.drop l.length) by rw [addL_no HF.out, HPE.out])
                  have hl : (addL l d).length = 0 + (l.length) + 1 + 0 := by rw [e1, List.length_append, List.length_append, List.length_take, List.length_drop, Nat.min_eq_left (by omega)]; simp <;> omega
                  have hx : dmgs (addL l d) = [] ++ dmgs (l.take (l.length)) ++ [.int .i64 d.a, .int .i64 d.s, .int .i64 d.w] ++ dmgs (l.drop (l.length)) := by rw [e1, dmgs_append, dmgs_append, dmgs_one]; simp only [List.nil_append, List.append_assoc]
                  rw [hl, hx]
                  exact own_mono hown3 (by omega))
                all_goals have hal := addL_len l d
                all_goals clear hown3 hown2 hown1 hgrow1 hgrow2 hgrow3
                all_goals go_wp2_with fail
                all_goals refine (l3Good_c k v3 (addL l d) wD (Rs.of_own HO3.out) (by omega)).mono ?_
                all_goals rintro e wE ⟨rfl, bE⟩
                all_goals have HTE := Lib.hid (HTD.out.trans (bE.mono HTD.out.size))
                all_goals have HOE := Lib.hid (owns_below HO3.out bE)
                all_goals clear bE
                all_goals cases hga : good k (addL l d)
                all_goals have HGA := Lib.hid hga
                all_goals clear hga
                all_goals go_wp2
                all_goals go_ret2
                all_goals first
                  | (have HN : adOk k l d = true := by unfold adOk adIn; rw [HGA.out, HGB.out, decide_eq_true h1w]; rfl
                     refine ⟨v3, ret_v HN.symm, ?_, HTE.out⟩
                     rw [ad_yes HN]
                     exact HOE.out)
                  | (have HN : adOk k l d = false := by unfold adOk; rw [HGA.out, Bool.and_false]
                     refine ⟨_, ret_v HN.symm, ?_, HTE.out.alloc HTE.out.size _⟩
                     rw [ad_no HN]
                     exact World.ownsRow_made wE #[] 0 HTE.out.size (by decide) rfl)
              · go_wp2_with fail
                go_quiet (fail)
                go_wp2_with fail
                have HTA : Hid (Below w.heap.size w (w2.drewN nq)) := Lib.hid (below_drewN HT2.out _)
                have D0 : (w2.drewN nq).cell? ⟨w.heap.size + 1, 0, none⟩ = some (.int .i64 d.a) := z0
                have D1 : (w2.drewN nq).cell? ⟨w.heap.size + 1, 1, none⟩ = some (.int .i64 d.s) := z1
                have D2 : (w2.drewN nq).cell? ⟨w.heap.size + 1, 2, none⟩ = some (.int .i64 d.w) := z2
                obtain ⟨y0, y1, y2, y3, y4⟩ : (w2.drewN nq).cell? ⟨w.heap.size, 0, none⟩ = some (.int .i64 k.i) ∧ (w2.drewN nq).cell? ⟨w.heap.size, 1, none⟩ = some (.int .i64 k.s) ∧ (w2.drewN nq).cell? ⟨w.heap.size, 2, none⟩ = some (.int .i64 k.w) ∧ (w2.drewN nq).cell? ⟨w.heap.size, 3, none⟩ = some (.int .i64 k.g) ∧ (w2.drewN nq).cell? ⟨w.heap.size, 4, none⟩ = some (.int .i64 k.p) := HKY.out
                have hszA : w.heap.size + 2 ≤ (w2.drewN nq).heap.size := by show _ ≤ w2.heap.size; omega
                clear z0 z1 z2 zf HKY
                generalize w2.drewN nq = wA at *
                have HKA : Hid (∀ W, Below wA.heap.size wA W → W.cell? ⟨w.heap.size, 0, none⟩ = some (.int .i64 k.i) ∧ W.cell? ⟨w.heap.size, 1, none⟩ = some (.int .i64 k.s) ∧ W.cell? ⟨w.heap.size, 2, none⟩ = some (.int .i64 k.w) ∧ W.cell? ⟨w.heap.size, 3, none⟩ = some (.int .i64 k.g) ∧ W.cell? ⟨w.heap.size, 4, none⟩ = some (.int .i64 k.p)) := Lib.hid (fun W h => ⟨(h.cell (by show w.heap.size < _; omega)).trans y0, (h.cell (by show w.heap.size < _; omega)).trans y1, (h.cell (by show w.heap.size < _; omega)).trans y2, (h.cell (by show w.heap.size < _; omega)).trans y3, (h.cell (by show w.heap.size < _; omega)).trans y4⟩)
                clear y0 y1 y2 y3 y4
                have HKS : Hid (∀ W, Below wA.heap.size wA W → Below wA.heap.size wA W ∧ W.cell? ⟨w.heap.size + 1, 0, none⟩ = some (.int .i64 d.a) ∧ W.cell? ⟨w.heap.size + 1, 1, none⟩ = some (.int .i64 d.s) ∧ W.cell? ⟨w.heap.size + 1, 2, none⟩ = some (.int .i64 d.w)) := Lib.hid (fun W h => ⟨h, (h.cell (by show w.heap.size + 1 < _; omega)).trans D0, (h.cell (by show w.heap.size + 1 < _; omega)).trans D1, (h.cell (by show w.heap.size + 1 < _; omega)).trans D2⟩)
                have HOA := Lib.hid (owns_below HO.out HTA.out)
                have HS1 : Hid (∀ W, Below wA.heap.size wA W → ∀ j u, (dmgs (l.take l.length))[j]? = some u → W.cell? ((⟨g, 0, none⟩ : Addr).add j) = some u) := Lib.hid (fun W h j u hu => (h.cell (by rw [gs_addr]; show g < _; omega)).trans (HOA.out.cells (g := g) rfl j u (by
                  have e : dmgs l = dmgs (l.take l.length) ++ dmgs (l.drop l.length) := by rw [← dmgs_append, List.take_append_drop]
                  rw [e, List.getElem?_append_left (List.getElem?_eq_some_iff.1 hu).1]; exact hu)))
                have HS3 : Hid (∀ W, Below wA.heap.size wA W → 0 < 0 → ∃ ad : Addr, ((some ⟨g, l.length * 3, none⟩) : Option Addr) = some ad ∧ ∀ j u, (dmgs (l.drop l.length))[j]? = some u → W.cell? (ad.add j) = some u) := Lib.hid (fun W h hrn => ⟨⟨g, l.length * 3, none⟩, rfl, fun j u hu => by
                  have h1 := HOA.out.cells (g := g) rfl (l.length * 3 + j) u (by
                    have e : dmgs l = dmgs (l.take l.length) ++ dmgs (l.drop l.length) := by rw [← dmgs_append, List.take_append_drop]
                    have hl : (dmgs (l.take l.length)).length = l.length * 3 := dmgs_take_len l _ (by omega)
                    rw [e, List.getElem?_append_right (by omega), hl, Nat.add_sub_cancel_left]; exact hu)
                  rw [gs_addr] at h1 ⊢
                  rw [h.cell (by show g < _; omega)]
                  simpa using h1⟩)
                have hlt1 : (dmgs (l.take l.length)).length = l.length * 3 := dmgs_take_len l (l.length) (by omega)
                have hld : (dmgs (l.drop l.length)).length = 0 * 3 := by rw [dmgs_len, List.length_drop] <;> first | done | (congr 1 <;> omega)
                have HP2 : Hid (((wA.alloc (.cells #[] 34)).alloc (.cells #[.int .i64 d.a, .int .i64 d.s, .int .i64 d.w] 34)).heap[wA.heap.size + 1]? = some (.cells #[.int .i64 d.a, .int .i64 d.s, .int .i64 d.w] 34)) := Lib.hid (by simpa using heap_alloc_new (wA.alloc (.cells #[] 34)) (.cells #[.int .i64 d.a, .int .i64 d.s, .int .i64 d.w] 34))
                have HP3 : Hid (((wA.alloc (.cells #[.int .i64 d.a, .int .i64 d.s, .int .i64 d.w] 34)).alloc (.cells #[] 34)).heap[wA.heap.size]? = some (.cells #[.int .i64 d.a, .int .i64 d.s, .int .i64 d.w] 34)) := Lib.hid ((heap_alloc_old (wA.alloc (.cells #[.int .i64 d.a, .int .i64 d.s, .int .i64 d.w] 34)) _ (by simp)).trans (heap_alloc_new wA _))
                have HOR3 : Hid (((wA.alloc (.cells #[.int .i64 d.a, .int .i64 d.s, .int .i64 d.w] 34)).alloc (.cells #[] 34)).ownsRow wA.heap.size 34 3 (.slice (some ⟨wA.heap.size + 1, 0, none⟩) 0 0) 0 []) := Lib.hid (by
                  have h := World.ownsRow_made (wA.alloc (.cells #[.int .i64 d.a, .int .i64 d.s, .int .i64 d.w] 34)) #[] 0 (base := wA.heap.size) (e := 34) (size := 3) (by simp) (by decide) rfl
                  rw [show (wA.alloc (.cells #[.int .i64 d.a, .int .i64 d.s, .int .i64 d.w] 34)).heap.size = wA.heap.size + 1 by simp] at h
                  exact h)
                have H1a := Lib.hid (dmgs_one_cell (l.take l.length))
                have H1b := Lib.hid (dmgs_one_cell (l.drop l.length))
                go_region_held3 (fun w' => Below wA.heap.size wA w' ∧ w'.cell? ⟨w.heap.size + 1, 0, none⟩ = some (.int .i64 d.a) ∧ w'.cell? ⟨w.heap.size + 1, 1, none⟩ = some (.int .i64 d.s) ∧ w'.cell? ⟨w.heap.size + 1, 2, none⟩ = some (.int .i64 d.w))
                  (exact HKS.out _ (by (first
                      | exact (Below.refl _ _).drew
                      | exact Below.refl _ _
                      | exact (Below.refl _ _).alloc (Nat.le_refl _) _
                      | exact ((Below.refl _ _).alloc (Nat.le_refl _) _).drew
                      | exact (((Below.refl _ _).alloc (Nat.le_refl _) _).alloc (by simp) _).drew
                      | exact ((Below.refl _ _).alloc (Nat.le_refl _) _).alloc (by simp) _
                      | (go_split_ands; refine Below.grown ?_ hgrow3 (Below.size (B := wA.heap.size) ?_) (fun k hk => (hown2'.lt k hk).1) <;> assumption)
                      | (go_split_ands; refine Below.grown ?_ hgrow2 (Below.size (B := wA.heap.size) ?_) (fun k hk => (hown1'.lt k hk).1) <;> assumption)
                      | (go_split_ands; refine Below.alloc ?_ (Below.size (B := wA.heap.size) ?_) _ <;> assumption)
                      | (go_split_ands; refine Below.drew ?_; refine Below.alloc ?_ (Below.size (B := wA.heap.size) ?_) _ <;> assumption)
                      | (go_split_ands; refine Below.grown ?_ hgrow1 (Below.size (B := wA.heap.size) ?_) (fun k hk => by simp [Value.ownBlock] at hk; omega) <;> assumption))))
                  (first
                    | (refine step_append_any _ (by rfl) _ _ _ (by rfl) wA.heap.size 34 i0 (.agg #[.int .i64 0, .int .i64 0, .int .i64 0]) 3 24 Try.underlying26 hi hz0 hz1 hz2 rfl (by omega) (.slice (some ⟨_, 0, none⟩) 0 0) 0 [] (by rfl) (by first | exact World.ownsRow_made wA #[] 0 (Nat.le_refl _) (by decide) rfl | exact (World.ownsRow_made wA #[] 0 (Nat.le_refl _) (by decide) rfl).alloc (.cells #[.int .i64 d.a, .int .i64 d.s, .int .i64 d.w] 34) | exact HOR3.out | fail) (some ⟨g, 0, none⟩) (l.length) ca (dmgs (l.take l.length)) (by rfl) hlt1 (fun _ => ⟨_, rfl, HS1.out _ (by go_split_ands; assumption)⟩) H1a.out (by unfold maxLen; omega) (by omega) (by first | assumption | (simp; done) | (simp; omega) | fail) ?_; intro v1 wB hown1 hgrow1 hat1; have hzB : wA.heap.size ≤ wB.heap.size := by have h := hgrow1.size; simp at h; omega)
                    | (refine step_append_any _ (by rfl) _ _ _ (by rfl) wA.heap.size 34 i0 (.agg #[.int .i64 0, .int .i64 0, .int .i64 0]) 3 24 Try.underlying26 hi hz0 hz1 hz2 rfl (by omega) v2 _ _ (by rfl) hown2 (some ⟨g, l.length * 3, none⟩) 0 (ca - l.length) (dmgs (l.drop l.length)) (by rfl) hld (HS3.out _ (by go_split_ands; assumption)) H1b.out (by unfold maxLen; omega) (by omega) (by first | assumption | (simp; done) | (simp; omega) | fail) ?_; have hown2' := hown2; intro v3 wD hown3 hgrow3 hat3; have hzD : wA.heap.size ≤ wD.heap.size := by have h := hgrow3.size; omega)
                    | (refine step_append_any _ (by rfl) _ _ _ (by rfl) wA.heap.size 34 i0 (.agg #[.int .i64 0, .int .i64 0, .int .i64 0]) 3 24 Try.underlying26 hi hz0 hz1 hz2 rfl (by omega) v1 _ _ (by rfl) (by first | exact hown1 | exact hown1.alloc _ | fail) _ 1 1 [.int .i64 d.a, .int .i64 d.s, .int .i64 d.w] (by rfl) rfl (fun _ => ⟨_, rfl, World.news_of_block (cs := #[.int .i64 d.a, .int .i64 d.s, .int .i64 d.w]) (t := 34) (fr := (0, 0)) (by first
                        | exact (hgrow1.block (wA.heap.size + 1) (by simp) (by simp [Value.ownBlock])).trans HP2.out
                        | exact (hgrow1.block wA.heap.size (by simp <;> omega) (by simp [Value.ownBlock])).trans HP3.out
                        | exact heap_alloc_new wB _
                        | fail)⟩) (by simp [Value.oneCell']) (by unfold maxLen; omega) (by omega) (by first | assumption | (simp; done) | (simp; omega) | fail) ?_; have hown1' := hown1; intro v2 wC hown2 hgrow2 hat2; have hzC : wA.heap.size ≤ wC.heap.size := by have h := hgrow2.size; first | omega | (simp at h; omega))
                    | fail)
                all_goals have hBD : Below wA.heap.size wA wD := by go_split_ands; assumption
                all_goals obtain ⟨y0, y1, y2, y3, y4⟩ := HKA.out _ hBD
                all_goals have HTD : Hid (Below w.heap.size w wD) := Lib.hid (HTA.out.trans (hBD.mono (by omega)))
                all_goals have HO3 : Hid (wD.ownsRow w.heap.size 34 3 v3 (addL l d).length (dmgs (addL l d))) := Lib.hid (by
                  have e1 := (show addL l d = l.take l.length ++ ([d] ++ l.drop l.length) by rw [addL_no HF.out, HPE.out])
                  have hl : (addL l d).length = 0 + (l.length) + 1 + 0 := by rw [e1, List.length_append, List.length_append, List.length_take, List.length_drop, Nat.min_eq_left (by omega)]; simp <;> omega
                  have hx : dmgs (addL l d) = [] ++ dmgs (l.take (l.length)) ++ [.int .i64 d.a, .int .i64 d.s, .int .i64 d.w] ++ dmgs (l.drop (l.length)) := by rw [e1, dmgs_append, dmgs_append, dmgs_one]; simp only [List.nil_append, List.append_assoc]
                  rw [hl, hx]
                  exact own_mono hown3 (by omega))
                all_goals have hal := addL_len l d
                all_goals clear hown3 hown2 hown1 hgrow1 hgrow2 hgrow3
                all_goals go_wp2_with fail
                all_goals refine (l3Good_c k v3 (addL l d) wD (Rs.of_own HO3.out) (by omega)).mono ?_
                all_goals rintro e wE ⟨rfl, bE⟩
                all_goals have HTE := Lib.hid (HTD.out.trans (bE.mono HTD.out.size))
                all_goals have HOE := Lib.hid (owns_below HO3.out bE)
                all_goals clear bE
                all_goals cases hga : good k (addL l d)
                all_goals have HGA := Lib.hid hga
                all_goals clear hga
                all_goals go_wp2
                all_goals go_ret2
                all_goals first
                  | (have HN : adOk k l d = true := by unfold adOk adIn; rw [HGA.out, HGB.out, decide_eq_true h1w]; rfl
                     refine ⟨v3, ret_v HN.symm, ?_, HTE.out⟩
                     rw [ad_yes HN]
                     exact HOE.out)
                  | (have HN : adOk k l d = false := by unfold adOk; rw [HGA.out, Bool.and_false]
                     refine ⟨_, ret_v HN.symm, ?_, HTE.out.alloc HTE.out.size _⟩
                     rw [ad_no HN]
                     exact World.ownsRow_made wE #[] 0 HTE.out.size (by decide) rfl)

            · have HF := Lib.hid (show fnd l d = false by simp [fnd, sameP]; intro _ h; omega)
              obtain ⟨c0, c1, c2⟩ := (HL.out.below HT1.out hgw) (posn l d) hpl
              simp only [Nat.zero_add] at c0 c1 c2
              have HL2 : Hid (∀ W, Below w.heap.size w W → W.cell? ⟨g, posn l d * 3, none⟩ = some (.int .i64 (gth l (posn l d)).a) ∧ W.cell? ⟨g, posn l d * 3 + 1, none⟩ = some (.int .i64 (gth l (posn l d)).s) ∧ W.cell? ⟨g, posn l d * 3 + 2, none⟩ = some (.int .i64 (gth l (posn l d)).w)) := Lib.hid (fun W h => by
                have := (HL.out.below h hgw) (posn l d) hpl
                simpa using this)
              have HSM : Hid (smW l d = IntKind.i64.wrap (d.w + (gth l (posn l d)).w)) := Lib.hid rfl
              generalize gth l (posn l d) = E at *
              have HAN : Hid (fnd l d = false → addL l d = l.take (posn l d) ++ ([d] ++ l.drop (posn l d))) := Lib.hid (fun h => addL_no h)
              have HAY : Hid (fnd l d = true → addL l d = l.take (posn l d) ++ ([⟨d.a, d.s, smW l d⟩] ++ l.drop (posn l d + 1))) := Lib.hid (fun h => addL_yes h)
              generalize smW l d = SW at *
              generalize posn l d = p at *
              have hb1 : (0 : Int) ≤ (p : Int) := by omega
              have hb2 : (p : Int) ≤ (ca : Int) := by omega
              have hca : ¬ ca = p := by omega
              have t1 : decide (E.a < d.a) = false := by simp; omega
              have t2 : (E.a == d.a) = false := by rw [beq_eq_false_iff_ne]; omega
              clear hA
              go_wp2_with fail
              go_quiet (fail)
              have HT2 : Hid (Below w.heap.size w ((w1.drewN m).drewN nq)) := Lib.hid (below_drewN (below_drewN HT1.out _) _)
              have z0 : ((w1.drewN m).drewN nq).cell? ⟨w.heap.size + 1, 0, none⟩ = some (.int .i64 d.a) := d0
              have z1 : ((w1.drewN m).drewN nq).cell? ⟨w.heap.size + 1, 1, none⟩ = some (.int .i64 d.s) := d1
              have z2 : ((w1.drewN m).drewN nq).cell? ⟨w.heap.size + 1, 2, none⟩ = some (.int .i64 d.w) := d2
              have zf : ((w1.drewN m).drewN nq).frozen? ⟨w.heap.size + 1, 2, none⟩ = false := HFD.out _ (below_drewN (below_drewN HB1.out m) nq)
              have HKY := Lib.hid (HBK.out _ (below_drewN (below_drewN HB1.out m) nq))
              have hsz2 : w.heap.size + 2 ≤ ((w1.drewN m).drewN nq).heap.size := by show _ ≤ w1.heap.size; omega
              clear d0 d1 d2
              generalize (w1.drewN m).drewN nq = w2 at *
              have hgw2 : g < w2.heap.size := by omega
              obtain ⟨q0, q1, q2⟩ := HL2.out _ HT2.out
              clear c0 c1 c2
              have t4 : decide ((0 : Int) < ((l.length - p : Nat) : Int)) = true := by simp; omega
              have t6 : decide (p < l.length) = true := by simp; omega
              have t7 : decide (0 < l.length - p) = true := by simp; omega
              have t8 : decide ((p : Int) < (l.length : Int)) = true := by simp; omega
              have t9 : 0 < l.length - p := by omega
              go_wp2_with fail
              go_quiet (fail)
              go_wp2_with fail
              have HTA : Hid (Below w.heap.size w (w2.drewN nq)) := Lib.hid (below_drewN HT2.out _)
              have D0 : (w2.drewN nq).cell? ⟨w.heap.size + 1, 0, none⟩ = some (.int .i64 d.a) := z0
              have D1 : (w2.drewN nq).cell? ⟨w.heap.size + 1, 1, none⟩ = some (.int .i64 d.s) := z1
              have D2 : (w2.drewN nq).cell? ⟨w.heap.size + 1, 2, none⟩ = some (.int .i64 d.w) := z2
              obtain ⟨y0, y1, y2, y3, y4⟩ : (w2.drewN nq).cell? ⟨w.heap.size, 0, none⟩ = some (.int .i64 k.i) ∧ (w2.drewN nq).cell? ⟨w.heap.size, 1, none⟩ = some (.int .i64 k.s) ∧ (w2.drewN nq).cell? ⟨w.heap.size, 2, none⟩ = some (.int .i64 k.w) ∧ (w2.drewN nq).cell? ⟨w.heap.size, 3, none⟩ = some (.int .i64 k.g) ∧ (w2.drewN nq).cell? ⟨w.heap.size, 4, none⟩ = some (.int .i64 k.p) := HKY.out
              have hszA : w.heap.size + 2 ≤ (w2.drewN nq).heap.size := by show _ ≤ w2.heap.size; omega
              clear z0 z1 z2 zf HKY
              generalize w2.drewN nq = wA at *
              have HKA : Hid (∀ W, Below wA.heap.size wA W → W.cell? ⟨w.heap.size, 0, none⟩ = some (.int .i64 k.i) ∧ W.cell? ⟨w.heap.size, 1, none⟩ = some (.int .i64 k.s) ∧ W.cell? ⟨w.heap.size, 2, none⟩ = some (.int .i64 k.w) ∧ W.cell? ⟨w.heap.size, 3, none⟩ = some (.int .i64 k.g) ∧ W.cell? ⟨w.heap.size, 4, none⟩ = some (.int .i64 k.p)) := Lib.hid (fun W h => ⟨(h.cell (by show w.heap.size < _; omega)).trans y0, (h.cell (by show w.heap.size < _; omega)).trans y1, (h.cell (by show w.heap.size < _; omega)).trans y2, (h.cell (by show w.heap.size < _; omega)).trans y3, (h.cell (by show w.heap.size < _; omega)).trans y4⟩)
              clear y0 y1 y2 y3 y4
              have HKS : Hid (∀ W, Below wA.heap.size wA W → Below wA.heap.size wA W ∧ W.cell? ⟨w.heap.size + 1, 0, none⟩ = some (.int .i64 d.a) ∧ W.cell? ⟨w.heap.size + 1, 1, none⟩ = some (.int .i64 d.s) ∧ W.cell? ⟨w.heap.size + 1, 2, none⟩ = some (.int .i64 d.w)) := Lib.hid (fun W h => ⟨h, (h.cell (by show w.heap.size + 1 < _; omega)).trans D0, (h.cell (by show w.heap.size + 1 < _; omega)).trans D1, (h.cell (by show w.heap.size + 1 < _; omega)).trans D2⟩)
              have HOA := Lib.hid (owns_below HO.out HTA.out)
              have HS1 : Hid (∀ W, Below wA.heap.size wA W → ∀ j u, (dmgs (l.take p))[j]? = some u → W.cell? ((⟨g, 0, none⟩ : Addr).add j) = some u) := Lib.hid (fun W h j u hu => (h.cell (by rw [gs_addr]; show g < _; omega)).trans (HOA.out.cells (g := g) rfl j u (by
                have e : dmgs l = dmgs (l.take p) ++ dmgs (l.drop p) := by rw [← dmgs_append, List.take_append_drop]
                rw [e, List.getElem?_append_left (List.getElem?_eq_some_iff.1 hu).1]; exact hu)))
              have HS3 : Hid (∀ W, Below wA.heap.size wA W → 0 < (l.length - p) → ∃ ad : Addr, ((some ⟨g, p * 3, none⟩) : Option Addr) = some ad ∧ ∀ j u, (dmgs (l.drop p))[j]? = some u → W.cell? (ad.add j) = some u) := Lib.hid (fun W h hrn => ⟨⟨g, p * 3, none⟩, rfl, fun j u hu => by
                have h1 := HOA.out.cells (g := g) rfl (p * 3 + j) u (by
                  have e : dmgs l = dmgs (l.take p) ++ dmgs (l.drop p) := by rw [← dmgs_append, List.take_append_drop]
                  have hl : (dmgs (l.take p)).length = p * 3 := dmgs_take_len l _ (by omega)
                  rw [e, List.getElem?_append_right (by omega), hl, Nat.add_sub_cancel_left]; exact hu)
                rw [gs_addr] at h1 ⊢
                rw [h.cell (by show g < _; omega)]
                simpa using h1⟩)
              have hlt1 : (dmgs (l.take p)).length = p * 3 := dmgs_take_len l (p) (by omega)
              have hld : (dmgs (l.drop p)).length = (l.length - p) * 3 := by rw [dmgs_len, List.length_drop] <;> first | done | (congr 1 <;> omega)
              have HP2 : Hid (((wA.alloc (.cells #[] 34)).alloc (.cells #[.int .i64 d.a, .int .i64 d.s, .int .i64 d.w] 34)).heap[wA.heap.size + 1]? = some (.cells #[.int .i64 d.a, .int .i64 d.s, .int .i64 d.w] 34)) := Lib.hid (by simpa using heap_alloc_new (wA.alloc (.cells #[] 34)) (.cells #[.int .i64 d.a, .int .i64 d.s, .int .i64 d.w] 34))
              have HP3 : Hid (((wA.alloc (.cells #[.int .i64 d.a, .int .i64 d.s, .int .i64 d.w] 34)).alloc (.cells #[] 34)).heap[wA.heap.size]? = some (.cells #[.int .i64 d.a, .int .i64 d.s, .int .i64 d.w] 34)) := Lib.hid ((heap_alloc_old (wA.alloc (.cells #[.int .i64 d.a, .int .i64 d.s, .int .i64 d.w] 34)) _ (by simp)).trans (heap_alloc_new wA _))
              have HOR3 : Hid (((wA.alloc (.cells #[.int .i64 d.a, .int .i64 d.s, .int .i64 d.w] 34)).alloc (.cells #[] 34)).ownsRow wA.heap.size 34 3 (.slice (some ⟨wA.heap.size + 1, 0, none⟩) 0 0) 0 []) := Lib.hid (by
                have h := World.ownsRow_made (wA.alloc (.cells #[.int .i64 d.a, .int .i64 d.s, .int .i64 d.w] 34)) #[] 0 (base := wA.heap.size) (e := 34) (size := 3) (by simp) (by decide) rfl
                rw [show (wA.alloc (.cells #[.int .i64 d.a, .int .i64 d.s, .int .i64 d.w] 34)).heap.size = wA.heap.size + 1 by simp] at h
                exact h)
              have H1a := Lib.hid (dmgs_one_cell (l.take p))
              have H1b := Lib.hid (dmgs_one_cell (l.drop p))
              go_region_held3 (fun w' => Below wA.heap.size wA w' ∧ w'.cell? ⟨w.heap.size + 1, 0, none⟩ = some (.int .i64 d.a) ∧ w'.cell? ⟨w.heap.size + 1, 1, none⟩ = some (.int .i64 d.s) ∧ w'.cell? ⟨w.heap.size + 1, 2, none⟩ = some (.int .i64 d.w))
                (exact HKS.out _ (by (first
                    | exact (Below.refl _ _).drew
                    | exact Below.refl _ _
                    | exact (Below.refl _ _).alloc (Nat.le_refl _) _
                    | exact ((Below.refl _ _).alloc (Nat.le_refl _) _).drew
                    | exact (((Below.refl _ _).alloc (Nat.le_refl _) _).alloc (by simp) _).drew
                    | exact ((Below.refl _ _).alloc (Nat.le_refl _) _).alloc (by simp) _
                    | (go_split_ands; refine Below.grown ?_ hgrow3 (Below.size (B := wA.heap.size) ?_) (fun k hk => (hown2'.lt k hk).1) <;> assumption)
                    | (go_split_ands; refine Below.grown ?_ hgrow2 (Below.size (B := wA.heap.size) ?_) (fun k hk => (hown1'.lt k hk).1) <;> assumption)
                    | (go_split_ands; refine Below.alloc ?_ (Below.size (B := wA.heap.size) ?_) _ <;> assumption)
                    | (go_split_ands; refine Below.drew ?_; refine Below.alloc ?_ (Below.size (B := wA.heap.size) ?_) _ <;> assumption)
                    | (go_split_ands; refine Below.grown ?_ hgrow1 (Below.size (B := wA.heap.size) ?_) (fun k hk => by simp [Value.ownBlock] at hk; omega) <;> assumption))))
                (first
                  | (refine step_append_any _ (by rfl) _ _ _ (by rfl) wA.heap.size 34 i0 (.agg #[.int .i64 0, .int .i64 0, .int .i64 0]) 3 24 Try.underlying26 hi hz0 hz1 hz2 rfl (by omega) (.slice (some ⟨_, 0, none⟩) 0 0) 0 [] (by rfl) (by first | exact World.ownsRow_made wA #[] 0 (Nat.le_refl _) (by decide) rfl | exact (World.ownsRow_made wA #[] 0 (Nat.le_refl _) (by decide) rfl).alloc (.cells #[.int .i64 d.a, .int .i64 d.s, .int .i64 d.w] 34) | exact HOR3.out | fail) (some ⟨g, 0, none⟩) (p) ca (dmgs (l.take p)) (by rfl) hlt1 (fun _ => ⟨_, rfl, HS1.out _ (by go_split_ands; assumption)⟩) H1a.out (by unfold maxLen; omega) (by omega) (by first | assumption | (simp; done) | (simp; omega) | fail) ?_; intro v1 wB hown1 hgrow1 hat1; have hzB : wA.heap.size ≤ wB.heap.size := by have h := hgrow1.size; simp at h; omega)
                  | (refine step_append_any _ (by rfl) _ _ _ (by rfl) wA.heap.size 34 i0 (.agg #[.int .i64 0, .int .i64 0, .int .i64 0]) 3 24 Try.underlying26 hi hz0 hz1 hz2 rfl (by omega) v2 _ _ (by rfl) hown2 (some ⟨g, p * 3, none⟩) (l.length - p) (ca - p) (dmgs (l.drop p)) (by rfl) hld (HS3.out _ (by go_split_ands; assumption)) H1b.out (by unfold maxLen; omega) (by omega) (by first | assumption | (simp; done) | (simp; omega) | fail) ?_; have hown2' := hown2; intro v3 wD hown3 hgrow3 hat3; have hzD : wA.heap.size ≤ wD.heap.size := by have h := hgrow3.size; omega)
                  | (refine step_append_any _ (by rfl) _ _ _ (by rfl) wA.heap.size 34 i0 (.agg #[.int .i64 0, .int .i64 0, .int .i64 0]) 3 24 Try.underlying26 hi hz0 hz1 hz2 rfl (by omega) v1 _ _ (by rfl) (by first | exact hown1 | exact hown1.alloc _ | fail) _ 1 1 [.int .i64 d.a, .int .i64 d.s, .int .i64 d.w] (by rfl) rfl (fun _ => ⟨_, rfl, World.news_of_block (cs := #[.int .i64 d.a, .int .i64 d.s, .int .i64 d.w]) (t := 34) (fr := (0, 0)) (by first
                      | exact (hgrow1.block (wA.heap.size + 1) (by simp) (by simp [Value.ownBlock])).trans HP2.out
                      | exact (hgrow1.block wA.heap.size (by simp <;> omega) (by simp [Value.ownBlock])).trans HP3.out
                      | exact heap_alloc_new wB _
                      | fail)⟩) (by simp [Value.oneCell']) (by unfold maxLen; omega) (by omega) (by first | assumption | (simp; done) | (simp; omega) | fail) ?_; have hown1' := hown1; intro v2 wC hown2 hgrow2 hat2; have hzC : wA.heap.size ≤ wC.heap.size := by have h := hgrow2.size; first | omega | (simp at h; omega))
                  | fail)
              all_goals have hBD : Below wA.heap.size wA wD := by go_split_ands; assumption
              all_goals obtain ⟨y0, y1, y2, y3, y4⟩ := HKA.out _ hBD
              all_goals have HTD : Hid (Below w.heap.size w wD) := Lib.hid (HTA.out.trans (hBD.mono (by omega)))
              all_goals have HO3 : Hid (wD.ownsRow w.heap.size 34 3 v3 (addL l d).length (dmgs (addL l d))) := Lib.hid (by
                have e1 := (HAN.out HF.out)
                have hl : (addL l d).length = 0 + (p) + 1 + (l.length - p) := by rw [e1, List.length_append, List.length_append, List.length_take, List.length_drop, Nat.min_eq_left (by omega)]; simp <;> omega
                have hx : dmgs (addL l d) = [] ++ dmgs (l.take (p)) ++ [.int .i64 d.a, .int .i64 d.s, .int .i64 d.w] ++ dmgs (l.drop (p)) := by rw [e1, dmgs_append, dmgs_append, dmgs_one]; simp only [List.nil_append, List.append_assoc]
                rw [hl, hx]
                exact own_mono hown3 (by omega))
              all_goals have hal := addL_len l d
              all_goals clear hown3 hown2 hown1 hgrow1 hgrow2 hgrow3
              all_goals go_wp2_with fail
              all_goals refine (l3Good_c k v3 (addL l d) wD (Rs.of_own HO3.out) (by omega)).mono ?_
              all_goals rintro e wE ⟨rfl, bE⟩
              all_goals have HTE := Lib.hid (HTD.out.trans (bE.mono HTD.out.size))
              all_goals have HOE := Lib.hid (owns_below HO3.out bE)
              all_goals clear bE
              all_goals cases hga : good k (addL l d)
              all_goals have HGA := Lib.hid hga
              all_goals clear hga
              all_goals go_wp2
              all_goals go_ret2
              all_goals first
                | (have HN : adOk k l d = true := by unfold adOk adIn; rw [HGA.out, HGB.out, decide_eq_true h1w]; rfl
                   refine ⟨v3, ret_v HN.symm, ?_, HTE.out⟩
                   rw [ad_yes HN]
                   exact HOE.out)
                | (have HN : adOk k l d = false := by unfold adOk; rw [HGA.out, Bool.and_false]
                   refine ⟨_, ret_v HN.symm, ?_, HTE.out.alloc HTE.out.size _⟩
                   rw [ad_no HN]
                   exact World.ownsRow_made wE #[] 0 HTE.out.size (by decide) rfl)
            · have HF := Lib.hid (show fnd l d = false by simp [fnd, sameP]; intro _ _; omega)
              obtain ⟨c0, c1, c2⟩ := (HL.out.below HT1.out hgw) (posn l d) hpl
              simp only [Nat.zero_add] at c0 c1 c2
              have HL2 : Hid (∀ W, Below w.heap.size w W → W.cell? ⟨g, posn l d * 3, none⟩ = some (.int .i64 (gth l (posn l d)).a) ∧ W.cell? ⟨g, posn l d * 3 + 1, none⟩ = some (.int .i64 (gth l (posn l d)).s) ∧ W.cell? ⟨g, posn l d * 3 + 2, none⟩ = some (.int .i64 (gth l (posn l d)).w)) := Lib.hid (fun W h => by
                have := (HL.out.below h hgw) (posn l d) hpl
                simpa using this)
              have HSM : Hid (smW l d = IntKind.i64.wrap (d.w + (gth l (posn l d)).w)) := Lib.hid rfl
              generalize gth l (posn l d) = E at *
              have HAN : Hid (fnd l d = false → addL l d = l.take (posn l d) ++ ([d] ++ l.drop (posn l d))) := Lib.hid (fun h => addL_no h)
              have HAY : Hid (fnd l d = true → addL l d = l.take (posn l d) ++ ([⟨d.a, d.s, smW l d⟩] ++ l.drop (posn l d + 1))) := Lib.hid (fun h => addL_yes h)
              generalize smW l d = SW at *
              generalize posn l d = p at *
              have hb1 : (0 : Int) ≤ (p : Int) := by omega
              have hb2 : (p : Int) ≤ (ca : Int) := by omega
              have hca : ¬ ca = p := by omega
              have t1 : decide (E.a < d.a) = false := by simp; omega
              have t2 : (E.a == d.a) = true := by rw [beq_iff_eq]; omega
              have t3 : decide (E.s < d.s) = false := by simp; omega
              have t5 : (E.s == d.s) = false := by rw [beq_eq_false_iff_ne]; omega
              clear hA
              go_wp2_with fail
              go_quiet (fail)
              have HT2 : Hid (Below w.heap.size w ((w1.drewN m).drewN nq)) := Lib.hid (below_drewN (below_drewN HT1.out _) _)
              have z0 : ((w1.drewN m).drewN nq).cell? ⟨w.heap.size + 1, 0, none⟩ = some (.int .i64 d.a) := d0
              have z1 : ((w1.drewN m).drewN nq).cell? ⟨w.heap.size + 1, 1, none⟩ = some (.int .i64 d.s) := d1
              have z2 : ((w1.drewN m).drewN nq).cell? ⟨w.heap.size + 1, 2, none⟩ = some (.int .i64 d.w) := d2
              have zf : ((w1.drewN m).drewN nq).frozen? ⟨w.heap.size + 1, 2, none⟩ = false := HFD.out _ (below_drewN (below_drewN HB1.out m) nq)
              have HKY := Lib.hid (HBK.out _ (below_drewN (below_drewN HB1.out m) nq))
              have hsz2 : w.heap.size + 2 ≤ ((w1.drewN m).drewN nq).heap.size := by show _ ≤ w1.heap.size; omega
              clear d0 d1 d2
              generalize (w1.drewN m).drewN nq = w2 at *
              have hgw2 : g < w2.heap.size := by omega
              obtain ⟨q0, q1, q2⟩ := HL2.out _ HT2.out
              clear c0 c1 c2
              have t4 : decide ((0 : Int) < ((l.length - p : Nat) : Int)) = true := by simp; omega
              have t6 : decide (p < l.length) = true := by simp; omega
              have t7 : decide (0 < l.length - p) = true := by simp; omega
              have t8 : decide ((p : Int) < (l.length : Int)) = true := by simp; omega
              have t9 : 0 < l.length - p := by omega
              go_wp2_with fail
              go_quiet (fail)
              go_wp2_with fail
              have HTA : Hid (Below w.heap.size w (w2.drewN nq)) := Lib.hid (below_drewN HT2.out _)
              have D0 : (w2.drewN nq).cell? ⟨w.heap.size + 1, 0, none⟩ = some (.int .i64 d.a) := z0
              have D1 : (w2.drewN nq).cell? ⟨w.heap.size + 1, 1, none⟩ = some (.int .i64 d.s) := z1
              have D2 : (w2.drewN nq).cell? ⟨w.heap.size + 1, 2, none⟩ = some (.int .i64 d.w) := z2
              obtain ⟨y0, y1, y2, y3, y4⟩ : (w2.drewN nq).cell? ⟨w.heap.size, 0, none⟩ = some (.int .i64 k.i) ∧ (w2.drewN nq).cell? ⟨w.heap.size, 1, none⟩ = some (.int .i64 k.s) ∧ (w2.drewN nq).cell? ⟨w.heap.size, 2, none⟩ = some (.int .i64 k.w) ∧ (w2.drewN nq).cell? ⟨w.heap.size, 3, none⟩ = some (.int .i64 k.g) ∧ (w2.drewN nq).cell? ⟨w.heap.size, 4, none⟩ = some (.int .i64 k.p) := HKY.out
              have hszA : w.heap.size + 2 ≤ (w2.drewN nq).heap.size := by show _ ≤ w2.heap.size; omega
              clear z0 z1 z2 zf HKY
              generalize w2.drewN nq = wA at *
              have HKA : Hid (∀ W, Below wA.heap.size wA W → W.cell? ⟨w.heap.size, 0, none⟩ = some (.int .i64 k.i) ∧ W.cell? ⟨w.heap.size, 1, none⟩ = some (.int .i64 k.s) ∧ W.cell? ⟨w.heap.size, 2, none⟩ = some (.int .i64 k.w) ∧ W.cell? ⟨w.heap.size, 3, none⟩ = some (.int .i64 k.g) ∧ W.cell? ⟨w.heap.size, 4, none⟩ = some (.int .i64 k.p)) := Lib.hid (fun W h => ⟨(h.cell (by show w.heap.size < _; omega)).trans y0, (h.cell (by show w.heap.size < _; omega)).trans y1, (h.cell (by show w.heap.size < _; omega)).trans y2, (h.cell (by show w.heap.size < _; omega)).trans y3, (h.cell (by show w.heap.size < _; omega)).trans y4⟩)
              clear y0 y1 y2 y3 y4
              have HKS : Hid (∀ W, Below wA.heap.size wA W → Below wA.heap.size wA W ∧ W.cell? ⟨w.heap.size + 1, 0, none⟩ = some (.int .i64 d.a) ∧ W.cell? ⟨w.heap.size + 1, 1, none⟩ = some (.int .i64 d.s) ∧ W.cell? ⟨w.heap.size + 1, 2, none⟩ = some (.int .i64 d.w)) := Lib.hid (fun W h => ⟨h, (h.cell (by show w.heap.size + 1 < _; omega)).trans D0, (h.cell (by show w.heap.size + 1 < _; omega)).trans D1, (h.cell (by show w.heap.size + 1 < _; omega)).trans D2⟩)
              have HOA := Lib.hid (owns_below HO.out HTA.out)
              have HS1 : Hid (∀ W, Below wA.heap.size wA W → ∀ j u, (dmgs (l.take p))[j]? = some u → W.cell? ((⟨g, 0, none⟩ : Addr).add j) = some u) := Lib.hid (fun W h j u hu => (h.cell (by rw [gs_addr]; show g < _; omega)).trans (HOA.out.cells (g := g) rfl j u (by
                have e : dmgs l = dmgs (l.take p) ++ dmgs (l.drop p) := by rw [← dmgs_append, List.take_append_drop]
                rw [e, List.getElem?_append_left (List.getElem?_eq_some_iff.1 hu).1]; exact hu)))
              have HS3 : Hid (∀ W, Below wA.heap.size wA W → 0 < (l.length - p) → ∃ ad : Addr, ((some ⟨g, p * 3, none⟩) : Option Addr) = some ad ∧ ∀ j u, (dmgs (l.drop p))[j]? = some u → W.cell? (ad.add j) = some u) := Lib.hid (fun W h hrn => ⟨⟨g, p * 3, none⟩, rfl, fun j u hu => by
                have h1 := HOA.out.cells (g := g) rfl (p * 3 + j) u (by
                  have e : dmgs l = dmgs (l.take p) ++ dmgs (l.drop p) := by rw [← dmgs_append, List.take_append_drop]
                  have hl : (dmgs (l.take p)).length = p * 3 := dmgs_take_len l _ (by omega)
                  rw [e, List.getElem?_append_right (by omega), hl, Nat.add_sub_cancel_left]; exact hu)
                rw [gs_addr] at h1 ⊢
                rw [h.cell (by show g < _; omega)]
                simpa using h1⟩)
              have hlt1 : (dmgs (l.take p)).length = p * 3 := dmgs_take_len l (p) (by omega)
              have hld : (dmgs (l.drop p)).length = (l.length - p) * 3 := by rw [dmgs_len, List.length_drop] <;> first | done | (congr 1 <;> omega)
              have HP2 : Hid (((wA.alloc (.cells #[] 34)).alloc (.cells #[.int .i64 d.a, .int .i64 d.s, .int .i64 d.w] 34)).heap[wA.heap.size + 1]? = some (.cells #[.int .i64 d.a, .int .i64 d.s, .int .i64 d.w] 34)) := Lib.hid (by simpa using heap_alloc_new (wA.alloc (.cells #[] 34)) (.cells #[.int .i64 d.a, .int .i64 d.s, .int .i64 d.w] 34))
              have HP3 : Hid (((wA.alloc (.cells #[.int .i64 d.a, .int .i64 d.s, .int .i64 d.w] 34)).alloc (.cells #[] 34)).heap[wA.heap.size]? = some (.cells #[.int .i64 d.a, .int .i64 d.s, .int .i64 d.w] 34)) := Lib.hid ((heap_alloc_old (wA.alloc (.cells #[.int .i64 d.a, .int .i64 d.s, .int .i64 d.w] 34)) _ (by simp)).trans (heap_alloc_new wA _))
              have HOR3 : Hid (((wA.alloc (.cells #[.int .i64 d.a, .int .i64 d.s, .int .i64 d.w] 34)).alloc (.cells #[] 34)).ownsRow wA.heap.size 34 3 (.slice (some ⟨wA.heap.size + 1, 0, none⟩) 0 0) 0 []) := Lib.hid (by
                have h := World.ownsRow_made (wA.alloc (.cells #[.int .i64 d.a, .int .i64 d.s, .int .i64 d.w] 34)) #[] 0 (base := wA.heap.size) (e := 34) (size := 3) (by simp) (by decide) rfl
                rw [show (wA.alloc (.cells #[.int .i64 d.a, .int .i64 d.s, .int .i64 d.w] 34)).heap.size = wA.heap.size + 1 by simp] at h
                exact h)
              have H1a := Lib.hid (dmgs_one_cell (l.take p))
              have H1b := Lib.hid (dmgs_one_cell (l.drop p))
              go_region_held3 (fun w' => Below wA.heap.size wA w' ∧ w'.cell? ⟨w.heap.size + 1, 0, none⟩ = some (.int .i64 d.a) ∧ w'.cell? ⟨w.heap.size + 1, 1, none⟩ = some (.int .i64 d.s) ∧ w'.cell? ⟨w.heap.size + 1, 2, none⟩ = some (.int .i64 d.w))
                (exact HKS.out _ (by (first
                    | exact (Below.refl _ _).drew
                    | exact Below.refl _ _
                    | exact (Below.refl _ _).alloc (Nat.le_refl _) _
                    | exact ((Below.refl _ _).alloc (Nat.le_refl _) _).drew
                    | exact (((Below.refl _ _).alloc (Nat.le_refl _) _).alloc (by simp) _).drew
                    | exact ((Below.refl _ _).alloc (Nat.le_refl _) _).alloc (by simp) _
                    | (go_split_ands; refine Below.grown ?_ hgrow3 (Below.size (B := wA.heap.size) ?_) (fun k hk => (hown2'.lt k hk).1) <;> assumption)
                    | (go_split_ands; refine Below.grown ?_ hgrow2 (Below.size (B := wA.heap.size) ?_) (fun k hk => (hown1'.lt k hk).1) <;> assumption)
                    | (go_split_ands; refine Below.alloc ?_ (Below.size (B := wA.heap.size) ?_) _ <;> assumption)
                    | (go_split_ands; refine Below.drew ?_; refine Below.alloc ?_ (Below.size (B := wA.heap.size) ?_) _ <;> assumption)
                    | (go_split_ands; refine Below.grown ?_ hgrow1 (Below.size (B := wA.heap.size) ?_) (fun k hk => by simp [Value.ownBlock] at hk; omega) <;> assumption))))
                (first
                  | (refine step_append_any _ (by rfl) _ _ _ (by rfl) wA.heap.size 34 i0 (.agg #[.int .i64 0, .int .i64 0, .int .i64 0]) 3 24 Try.underlying26 hi hz0 hz1 hz2 rfl (by omega) (.slice (some ⟨_, 0, none⟩) 0 0) 0 [] (by rfl) (by first | exact World.ownsRow_made wA #[] 0 (Nat.le_refl _) (by decide) rfl | exact (World.ownsRow_made wA #[] 0 (Nat.le_refl _) (by decide) rfl).alloc (.cells #[.int .i64 d.a, .int .i64 d.s, .int .i64 d.w] 34) | exact HOR3.out | fail) (some ⟨g, 0, none⟩) (p) ca (dmgs (l.take p)) (by rfl) hlt1 (fun _ => ⟨_, rfl, HS1.out _ (by go_split_ands; assumption)⟩) H1a.out (by unfold maxLen; omega) (by omega) (by first | assumption | (simp; done) | (simp; omega) | fail) ?_; intro v1 wB hown1 hgrow1 hat1; have hzB : wA.heap.size ≤ wB.heap.size := by have h := hgrow1.size; simp at h; omega)
                  | (refine step_append_any _ (by rfl) _ _ _ (by rfl) wA.heap.size 34 i0 (.agg #[.int .i64 0, .int .i64 0, .int .i64 0]) 3 24 Try.underlying26 hi hz0 hz1 hz2 rfl (by omega) v2 _ _ (by rfl) hown2 (some ⟨g, p * 3, none⟩) (l.length - p) (ca - p) (dmgs (l.drop p)) (by rfl) hld (HS3.out _ (by go_split_ands; assumption)) H1b.out (by unfold maxLen; omega) (by omega) (by first | assumption | (simp; done) | (simp; omega) | fail) ?_; have hown2' := hown2; intro v3 wD hown3 hgrow3 hat3; have hzD : wA.heap.size ≤ wD.heap.size := by have h := hgrow3.size; omega)
                  | (refine step_append_any _ (by rfl) _ _ _ (by rfl) wA.heap.size 34 i0 (.agg #[.int .i64 0, .int .i64 0, .int .i64 0]) 3 24 Try.underlying26 hi hz0 hz1 hz2 rfl (by omega) v1 _ _ (by rfl) (by first | exact hown1 | exact hown1.alloc _ | fail) _ 1 1 [.int .i64 d.a, .int .i64 d.s, .int .i64 d.w] (by rfl) rfl (fun _ => ⟨_, rfl, World.news_of_block (cs := #[.int .i64 d.a, .int .i64 d.s, .int .i64 d.w]) (t := 34) (fr := (0, 0)) (by first
                      | exact (hgrow1.block (wA.heap.size + 1) (by simp) (by simp [Value.ownBlock])).trans HP2.out
                      | exact (hgrow1.block wA.heap.size (by simp <;> omega) (by simp [Value.ownBlock])).trans HP3.out
                      | exact heap_alloc_new wB _
                      | fail)⟩) (by simp [Value.oneCell']) (by unfold maxLen; omega) (by omega) (by first | assumption | (simp; done) | (simp; omega) | fail) ?_; have hown1' := hown1; intro v2 wC hown2 hgrow2 hat2; have hzC : wA.heap.size ≤ wC.heap.size := by have h := hgrow2.size; first | omega | (simp at h; omega))
                  | fail)
              all_goals have hBD : Below wA.heap.size wA wD := by go_split_ands; assumption
              all_goals obtain ⟨y0, y1, y2, y3, y4⟩ := HKA.out _ hBD
              all_goals have HTD : Hid (Below w.heap.size w wD) := Lib.hid (HTA.out.trans (hBD.mono (by omega)))
              all_goals have HO3 : Hid (wD.ownsRow w.heap.size 34 3 v3 (addL l d).length (dmgs (addL l d))) := Lib.hid (by
                have e1 := (HAN.out HF.out)
                have hl : (addL l d).length = 0 + (p) + 1 + (l.length - p) := by rw [e1, List.length_append, List.length_append, List.length_take, List.length_drop, Nat.min_eq_left (by omega)]; simp <;> omega
                have hx : dmgs (addL l d) = [] ++ dmgs (l.take (p)) ++ [.int .i64 d.a, .int .i64 d.s, .int .i64 d.w] ++ dmgs (l.drop (p)) := by rw [e1, dmgs_append, dmgs_append, dmgs_one]; simp only [List.nil_append, List.append_assoc]
                rw [hl, hx]
                exact own_mono hown3 (by omega))
              all_goals have hal := addL_len l d
              all_goals clear hown3 hown2 hown1 hgrow1 hgrow2 hgrow3
              all_goals go_wp2_with fail
              all_goals refine (l3Good_c k v3 (addL l d) wD (Rs.of_own HO3.out) (by omega)).mono ?_
              all_goals rintro e wE ⟨rfl, bE⟩
              all_goals have HTE := Lib.hid (HTD.out.trans (bE.mono HTD.out.size))
              all_goals have HOE := Lib.hid (owns_below HO3.out bE)
              all_goals clear bE
              all_goals cases hga : good k (addL l d)
              all_goals have HGA := Lib.hid hga
              all_goals clear hga
              all_goals go_wp2
              all_goals go_ret2
              all_goals first
                | (have HN : adOk k l d = true := by unfold adOk adIn; rw [HGA.out, HGB.out, decide_eq_true h1w]; rfl
                   refine ⟨v3, ret_v HN.symm, ?_, HTE.out⟩
                   rw [ad_yes HN]
                   exact HOE.out)
                | (have HN : adOk k l d = false := by unfold adOk; rw [HGA.out, Bool.and_false]
                   refine ⟨_, ret_v HN.symm, ?_, HTE.out.alloc HTE.out.size _⟩
                   rw [ad_no HN]
                   exact World.ownsRow_made wE #[] 0 HTE.out.size (by decide) rfl)
            · have HF := Lib.hid (show fnd l d = true by simp [fnd, sameP]; exact ⟨hpl, hA, hS⟩)
              obtain ⟨c0, c1, c2⟩ := (HL.out.below HT1.out hgw) (posn l d) hpl
              simp only [Nat.zero_add] at c0 c1 c2
              have HL2 : Hid (∀ W, Below w.heap.size w W → W.cell? ⟨g, posn l d * 3, none⟩ = some (.int .i64 (gth l (posn l d)).a) ∧ W.cell? ⟨g, posn l d * 3 + 1, none⟩ = some (.int .i64 (gth l (posn l d)).s) ∧ W.cell? ⟨g, posn l d * 3 + 2, none⟩ = some (.int .i64 (gth l (posn l d)).w)) := Lib.hid (fun W h => by
                have := (HL.out.below h hgw) (posn l d) hpl
                simpa using this)
              have HSM : Hid (smW l d = IntKind.i64.wrap (d.w + (gth l (posn l d)).w)) := Lib.hid rfl
              generalize gth l (posn l d) = E at *
              have HAN : Hid (fnd l d = false → addL l d = l.take (posn l d) ++ ([d] ++ l.drop (posn l d))) := Lib.hid (fun h => addL_no h)
              have HAY : Hid (fnd l d = true → addL l d = l.take (posn l d) ++ ([⟨d.a, d.s, smW l d⟩] ++ l.drop (posn l d + 1))) := Lib.hid (fun h => addL_yes h)
              generalize smW l d = SW at *
              generalize posn l d = p at *
              have hb1 : (0 : Int) ≤ (p : Int) := by omega
              have hb2 : (p : Int) ≤ (ca : Int) := by omega
              have hca : ¬ ca = p := by omega
              have t1 : decide (E.a < d.a) = false := by simp; omega
              have t2 : (E.a == d.a) = true := by rw [beq_iff_eq]; omega
              have t3 : decide (E.s < d.s) = false := by simp; omega
              have t5 : (E.s == d.s) = true := by rw [beq_iff_eq]; omega
              clear hA
              go_wp2_with fail
              go_quiet (fail)
              have HT2 : Hid (Below w.heap.size w ((w1.drewN m).drewN nq)) := Lib.hid (below_drewN (below_drewN HT1.out _) _)
              have z0 : ((w1.drewN m).drewN nq).cell? ⟨w.heap.size + 1, 0, none⟩ = some (.int .i64 d.a) := d0
              have z1 : ((w1.drewN m).drewN nq).cell? ⟨w.heap.size + 1, 1, none⟩ = some (.int .i64 d.s) := d1
              have z2 : ((w1.drewN m).drewN nq).cell? ⟨w.heap.size + 1, 2, none⟩ = some (.int .i64 d.w) := d2
              have zf : ((w1.drewN m).drewN nq).frozen? ⟨w.heap.size + 1, 2, none⟩ = false := HFD.out _ (below_drewN (below_drewN HB1.out m) nq)
              have HKY := Lib.hid (HBK.out _ (below_drewN (below_drewN HB1.out m) nq))
              have hsz2 : w.heap.size + 2 ≤ ((w1.drewN m).drewN nq).heap.size := by show _ ≤ w1.heap.size; omega
              clear d0 d1 d2
              generalize (w1.drewN m).drewN nq = w2 at *
              have hgw2 : g < w2.heap.size := by omega
              obtain ⟨q0, q1, q2⟩ := HL2.out _ HT2.out
              clear c0 c1 c2
              have t4 : decide ((0 : Int) < ((l.length - p : Nat) : Int)) = true := by simp; omega
              have t6 : decide (p < l.length) = true := by simp; omega
              have t7 : decide (0 < l.length - p) = true := by simp; omega
              have t8 : decide ((p : Int) < (l.length : Int)) = true := by simp; omega
              have t9 : 0 < l.length - p := by omega
              go_wp2_with fail
              go_quiet (fail)
              go_wp2_with fail
              have hsw : IntKind.i64.wrap (d.w + E.w) = SW := HSM.out.symm
              have HT3 : Hid (Below w.heap.size w (w2.drewN nq)) := Lib.hid (below_drewN HT2.out _)
              have x0 : (w2.drewN nq).cell? ⟨w.heap.size + 1, 0, none⟩ = some (.int .i64 d.a) := z0
              have x1 : (w2.drewN nq).cell? ⟨w.heap.size + 1, 1, none⟩ = some (.int .i64 d.s) := z1
              have x2 : (w2.drewN nq).cell? ⟨w.heap.size + 1, 2, none⟩ = some (.int .i64 d.w) := z2
              have xf : (w2.drewN nq).frozen? ⟨w.heap.size + 1, 2, none⟩ = false := zf
              have xq : (w2.drewN nq).cell? ⟨g, p * 3 + 2, none⟩ = some (.int .i64 E.w) := q2
              have HKZ : Hid ((w2.drewN nq).cell? ⟨w.heap.size, 0, none⟩ = some (.int .i64 k.i) ∧ (w2.drewN nq).cell? ⟨w.heap.size, 1, none⟩ = some (.int .i64 k.s) ∧ (w2.drewN nq).cell? ⟨w.heap.size, 2, none⟩ = some (.int .i64 k.w) ∧ (w2.drewN nq).cell? ⟨w.heap.size, 3, none⟩ = some (.int .i64 k.g) ∧ (w2.drewN nq).cell? ⟨w.heap.size, 4, none⟩ = some (.int .i64 k.p)) := HKY
              have hsz3 : w.heap.size + 2 ≤ (w2.drewN nq).heap.size := hsz2
              clear z0 z1 z2 zf q0 q1 q2 HKY
              generalize w2.drewN nq = w3 at *
              go_still_tail 8, (by kernel_rfl)
              change wpList _ _ _ _ _ w3.drew
              have hc0 := ca
              clear hc0
              by_cases hc1 : ca - p = 1
              · go_wp2_with fail
                have HTA : Hid (Below w.heap.size w ((w3.setCell ⟨w.heap.size + 1, 2, none⟩ (.int .i64 SW)).drew)) := Lib.hid ((HT3.out.setCell (p := ⟨w.heap.size + 1, 2, none⟩) (by show w.heap.size ≤ w.heap.size + 1; omega) _).drew)
                have D0 : ((w3.setCell ⟨w.heap.size + 1, 2, none⟩ (.int .i64 SW)).drew).cell? ⟨w.heap.size + 1, 0, none⟩ = some (.int .i64 d.a) := (by show (w3.setCell ⟨w.heap.size + 1, 2, none⟩ (.int .i64 SW)).cell? _ = _; rw [World.cell?_setCell_other _ _ _ _ (by simp)]; exact x0)
                have D1 : ((w3.setCell ⟨w.heap.size + 1, 2, none⟩ (.int .i64 SW)).drew).cell? ⟨w.heap.size + 1, 1, none⟩ = some (.int .i64 d.s) := (by show (w3.setCell ⟨w.heap.size + 1, 2, none⟩ (.int .i64 SW)).cell? _ = _; rw [World.cell?_setCell_other _ _ _ _ (by simp)]; exact x1)
                have D2 : ((w3.setCell ⟨w.heap.size + 1, 2, none⟩ (.int .i64 SW)).drew).cell? ⟨w.heap.size + 1, 2, none⟩ = some (.int .i64 SW) := (by show (w3.setCell ⟨w.heap.size + 1, 2, none⟩ (.int .i64 SW)).cell? _ = _; rw [World.cell?_setCell_same w3 _ _ (u := .int .i64 d.w) x2])
                obtain ⟨y0, y1, y2, y3, y4⟩ : ((w3.setCell ⟨w.heap.size + 1, 2, none⟩ (.int .i64 SW)).drew).cell? ⟨w.heap.size, 0, none⟩ = some (.int .i64 k.i) ∧ ((w3.setCell ⟨w.heap.size + 1, 2, none⟩ (.int .i64 SW)).drew).cell? ⟨w.heap.size, 1, none⟩ = some (.int .i64 k.s) ∧ ((w3.setCell ⟨w.heap.size + 1, 2, none⟩ (.int .i64 SW)).drew).cell? ⟨w.heap.size, 2, none⟩ = some (.int .i64 k.w) ∧ ((w3.setCell ⟨w.heap.size + 1, 2, none⟩ (.int .i64 SW)).drew).cell? ⟨w.heap.size, 3, none⟩ = some (.int .i64 k.g) ∧ ((w3.setCell ⟨w.heap.size + 1, 2, none⟩ (.int .i64 SW)).drew).cell? ⟨w.heap.size, 4, none⟩ = some (.int .i64 k.p) := ⟨(by show (w3.setCell ⟨w.heap.size + 1, 2, none⟩ (.int .i64 SW)).cell? _ = _; rw [World.cell?_setCell_other _ _ _ _ (by simp)]; exact HKZ.out.1), (by show (w3.setCell ⟨w.heap.size + 1, 2, none⟩ (.int .i64 SW)).cell? _ = _; rw [World.cell?_setCell_other _ _ _ _ (by simp)]; exact HKZ.out.2.1), (by show (w3.setCell ⟨w.heap.size + 1, 2, none⟩ (.int .i64 SW)).cell? _ = _; rw [World.cell?_setCell_other _ _ _ _ (by simp)]; exact HKZ.out.2.2.1), (by show (w3.setCell ⟨w.heap.size + 1, 2, none⟩ (.int .i64 SW)).cell? _ = _; rw [World.cell?_setCell_other _ _ _ _ (by simp)]; exact HKZ.out.2.2.2.1), (by show (w3.setCell ⟨w.heap.size + 1, 2, none⟩ (.int .i64 SW)).cell? _ = _; rw [World.cell?_setCell_other _ _ _ _ (by simp)]; exact HKZ.out.2.2.2.2)⟩
                have hszA : w.heap.size + 2 ≤ ((w3.setCell ⟨w.heap.size + 1, 2, none⟩ (.int .i64 SW)).drew).heap.size := by simp; omega
                clear x0 x1 x2 xf xq HKZ
                generalize (w3.setCell ⟨w.heap.size + 1, 2, none⟩ (.int .i64 SW)).drew = wA at *
                have HKA : Hid (∀ W, Below wA.heap.size wA W → W.cell? ⟨w.heap.size, 0, none⟩ = some (.int .i64 k.i) ∧ W.cell? ⟨w.heap.size, 1, none⟩ = some (.int .i64 k.s) ∧ W.cell? ⟨w.heap.size, 2, none⟩ = some (.int .i64 k.w) ∧ W.cell? ⟨w.heap.size, 3, none⟩ = some (.int .i64 k.g) ∧ W.cell? ⟨w.heap.size, 4, none⟩ = some (.int .i64 k.p)) := Lib.hid (fun W h => ⟨(h.cell (by show w.heap.size < _; omega)).trans y0, (h.cell (by show w.heap.size < _; omega)).trans y1, (h.cell (by show w.heap.size < _; omega)).trans y2, (h.cell (by show w.heap.size < _; omega)).trans y3, (h.cell (by show w.heap.size < _; omega)).trans y4⟩)
                clear y0 y1 y2 y3 y4
                have HKS : Hid (∀ W, Below wA.heap.size wA W → Below wA.heap.size wA W ∧ W.cell? ⟨w.heap.size + 1, 0, none⟩ = some (.int .i64 d.a) ∧ W.cell? ⟨w.heap.size + 1, 1, none⟩ = some (.int .i64 d.s) ∧ W.cell? ⟨w.heap.size + 1, 2, none⟩ = some (.int .i64 SW)) := Lib.hid (fun W h => ⟨h, (h.cell (by show w.heap.size + 1 < _; omega)).trans D0, (h.cell (by show w.heap.size + 1 < _; omega)).trans D1, (h.cell (by show w.heap.size + 1 < _; omega)).trans D2⟩)
                have HOA := Lib.hid (owns_below HO.out HTA.out)
                have HS1 : Hid (∀ W, Below wA.heap.size wA W → ∀ j u, (dmgs (l.take p))[j]? = some u → W.cell? ((⟨g, 0, none⟩ : Addr).add j) = some u) := Lib.hid (fun W h j u hu => (h.cell (by rw [gs_addr]; show g < _; omega)).trans (HOA.out.cells (g := g) rfl j u (by
                  have e : dmgs l = dmgs (l.take p) ++ dmgs (l.drop p) := by rw [← dmgs_append, List.take_append_drop]
                  rw [e, List.getElem?_append_left (List.getElem?_eq_some_iff.1 hu).1]; exact hu)))
                have HS3 : Hid (∀ W, Below wA.heap.size wA W → 0 < (l.length - p - 1) → ∃ ad : Addr, ((some ⟨g, p * 3, none⟩) : Option Addr) = some ad ∧ ∀ j u, (dmgs (l.drop (p + 1)))[j]? = some u → W.cell? (ad.add j) = some u) := Lib.hid (fun W h hrn => ⟨⟨g, (p + 1) * 3, none⟩, by omega, fun j u hu => by
                  have h1 := HOA.out.cells (g := g) rfl ((p + 1) * 3 + j) u (by
                    have e : dmgs l = dmgs (l.take (p + 1)) ++ dmgs (l.drop (p + 1)) := by rw [← dmgs_append, List.take_append_drop]
                    have hl : (dmgs (l.take (p + 1))).length = (p + 1) * 3 := dmgs_take_len l _ (by omega)
                    rw [e, List.getElem?_append_right (by omega), hl, Nat.add_sub_cancel_left]; exact hu)
                  rw [gs_addr] at h1 ⊢
                  rw [h.cell (by show g < _; omega)]
                  simpa using h1⟩)
                have hlt1 : (dmgs (l.take p)).length = p * 3 := dmgs_take_len l (p) (by omega)
                have hld : (dmgs (l.drop (p + 1))).length = (l.length - p - 1) * 3 := by rw [dmgs_len, List.length_drop] <;> first | done | (congr 1 <;> omega)
                have HP2 : Hid (((wA.alloc (.cells #[] 34)).alloc (.cells #[.int .i64 d.a, .int .i64 d.s, .int .i64 SW] 34)).heap[wA.heap.size + 1]? = some (.cells #[.int .i64 d.a, .int .i64 d.s, .int .i64 SW] 34)) := Lib.hid (by simpa using heap_alloc_new (wA.alloc (.cells #[] 34)) (.cells #[.int .i64 d.a, .int .i64 d.s, .int .i64 SW] 34))
                have HP3 : Hid (((wA.alloc (.cells #[.int .i64 d.a, .int .i64 d.s, .int .i64 SW] 34)).alloc (.cells #[] 34)).heap[wA.heap.size]? = some (.cells #[.int .i64 d.a, .int .i64 d.s, .int .i64 SW] 34)) := Lib.hid ((heap_alloc_old (wA.alloc (.cells #[.int .i64 d.a, .int .i64 d.s, .int .i64 SW] 34)) _ (by simp)).trans (heap_alloc_new wA _))
                have HOR3 : Hid (((wA.alloc (.cells #[.int .i64 d.a, .int .i64 d.s, .int .i64 SW] 34)).alloc (.cells #[] 34)).ownsRow wA.heap.size 34 3 (.slice (some ⟨wA.heap.size + 1, 0, none⟩) 0 0) 0 []) := Lib.hid (by
                  have h := World.ownsRow_made (wA.alloc (.cells #[.int .i64 d.a, .int .i64 d.s, .int .i64 SW] 34)) #[] 0 (base := wA.heap.size) (e := 34) (size := 3) (by simp) (by decide) rfl
                  rw [show (wA.alloc (.cells #[.int .i64 d.a, .int .i64 d.s, .int .i64 SW] 34)).heap.size = wA.heap.size + 1 by simp] at h
                  exact h)
                have H1a := Lib.hid (dmgs_one_cell (l.take p))
                have H1b := Lib.hid (dmgs_one_cell (l.drop (p + 1)))
                go_region_held3 (fun w' => Below wA.heap.size wA w' ∧ w'.cell? ⟨w.heap.size + 1, 0, none⟩ = some (.int .i64 d.a) ∧ w'.cell? ⟨w.heap.size + 1, 1, none⟩ = some (.int .i64 d.s) ∧ w'.cell? ⟨w.heap.size + 1, 2, none⟩ = some (.int .i64 SW))
                  (exact HKS.out _ (by (first
                      | exact (Below.refl _ _).drew
                      | exact Below.refl _ _
                      | exact (Below.refl _ _).alloc (Nat.le_refl _) _
                      | exact ((Below.refl _ _).alloc (Nat.le_refl _) _).drew
                      | exact (((Below.refl _ _).alloc (Nat.le_refl _) _).alloc (by simp) _).drew
                      | exact ((Below.refl _ _).alloc (Nat.le_refl _) _).alloc (by simp) _
                      | (go_split_ands; refine Below.grown ?_ hgrow3 (Below.size (B := wA.heap.size) ?_) (fun k hk => (hown2'.lt k hk).1) <;> assumption)
                      | (go_split_ands; refine Below.grown ?_ hgrow2 (Below.size (B := wA.heap.size) ?_) (fun k hk => (hown1'.lt k hk).1) <;> assumption)
                      | (go_split_ands; refine Below.alloc ?_ (Below.size (B := wA.heap.size) ?_) _ <;> assumption)
                      | (go_split_ands; refine Below.drew ?_; refine Below.alloc ?_ (Below.size (B := wA.heap.size) ?_) _ <;> assumption)
                      | (go_split_ands; refine Below.grown ?_ hgrow1 (Below.size (B := wA.heap.size) ?_) (fun k hk => by simp [Value.ownBlock] at hk; omega) <;> assumption))))
                  (first
                    | (refine step_append_any _ (by rfl) _ _ _ (by rfl) wA.heap.size 34 i0 (.agg #[.int .i64 0, .int .i64 0, .int .i64 0]) 3 24 Try.underlying26 hi hz0 hz1 hz2 rfl (by omega) (.slice (some ⟨_, 0, none⟩) 0 0) 0 [] (by rfl) (by first | exact World.ownsRow_made wA #[] 0 (Nat.le_refl _) (by decide) rfl | exact (World.ownsRow_made wA #[] 0 (Nat.le_refl _) (by decide) rfl).alloc (.cells #[.int .i64 d.a, .int .i64 d.s, .int .i64 SW] 34) | exact HOR3.out | fail) (some ⟨g, 0, none⟩) (p) ca (dmgs (l.take p)) (by rfl) hlt1 (fun _ => ⟨_, rfl, HS1.out _ (by go_split_ands; assumption)⟩) H1a.out (by unfold maxLen; omega) (by omega) (by first | assumption | (simp; done) | (simp; omega) | fail) ?_; intro v1 wB hown1 hgrow1 hat1; have hzB : wA.heap.size ≤ wB.heap.size := by have h := hgrow1.size; simp at h; omega)
                    | (refine step_append_any _ (by rfl) _ _ _ (by rfl) wA.heap.size 34 i0 (.agg #[.int .i64 0, .int .i64 0, .int .i64 0]) 3 24 Try.underlying26 hi hz0 hz1 hz2 rfl (by omega) v2 _ _ (by rfl) hown2 (some ⟨g, p * 3, none⟩) (l.length - p - 1) 0 (dmgs (l.drop (p + 1))) (by rfl) hld (HS3.out _ (by go_split_ands; assumption)) H1b.out (by unfold maxLen; omega) (by omega) (by first | assumption | (simp; done) | (simp; omega) | fail) ?_; have hown2' := hown2; intro v3 wD hown3 hgrow3 hat3; have hzD : wA.heap.size ≤ wD.heap.size := by have h := hgrow3.size; omega)
                    | (refine step_append_any _ (by rfl) _ _ _ (by rfl) wA.heap.size 34 i0 (.agg #[.int .i64 0, .int .i64 0, .int .i64 0]) 3 24 Try.underlying26 hi hz0 hz1 hz2 rfl (by omega) v1 _ _ (by rfl) (by first | exact hown1 | exact hown1.alloc _ | fail) _ 1 1 [.int .i64 d.a, .int .i64 d.s, .int .i64 SW] (by rfl) rfl (fun _ => ⟨_, rfl, World.news_of_block (cs := #[.int .i64 d.a, .int .i64 d.s, .int .i64 SW]) (t := 34) (fr := (0, 0)) (by first
                        | exact (hgrow1.block (wA.heap.size + 1) (by simp) (by simp [Value.ownBlock])).trans HP2.out
                        | exact (hgrow1.block wA.heap.size (by simp <;> omega) (by simp [Value.ownBlock])).trans HP3.out
                        | exact heap_alloc_new wB _
                        | fail)⟩) (by simp [Value.oneCell']) (by unfold maxLen; omega) (by omega) (by first | assumption | (simp; done) | (simp; omega) | fail) ?_; have hown1' := hown1; intro v2 wC hown2 hgrow2 hat2; have hzC : wA.heap.size ≤ wC.heap.size := by have h := hgrow2.size; first | omega | (simp at h; omega))
                    | fail)
                all_goals have hBD : Below wA.heap.size wA wD := by go_split_ands; assumption
                all_goals obtain ⟨y0, y1, y2, y3, y4⟩ := HKA.out _ hBD
                all_goals have HTD : Hid (Below w.heap.size w wD) := Lib.hid (HTA.out.trans (hBD.mono (by omega)))
                all_goals have HO3 : Hid (wD.ownsRow w.heap.size 34 3 v3 (addL l d).length (dmgs (addL l d))) := Lib.hid (by
                  have e1 := (HAY.out HF.out)
                  have hl : (addL l d).length = 0 + (p) + 1 + (l.length - p - 1) := by rw [e1, List.length_append, List.length_append, List.length_take, List.length_drop, Nat.min_eq_left (by omega)]; simp <;> omega
                  have hx : dmgs (addL l d) = [] ++ dmgs (l.take (p)) ++ [.int .i64 d.a, .int .i64 d.s, .int .i64 SW] ++ dmgs (l.drop ((p + 1))) := by rw [e1, dmgs_append, dmgs_append, dmgs_one]; simp only [List.nil_append, List.append_assoc]
                  rw [hl, hx]
                  exact own_mono hown3 (by omega))
                all_goals have hal := addL_len l d
                all_goals clear hown3 hown2 hown1 hgrow1 hgrow2 hgrow3
                all_goals go_wp2_with fail
                all_goals refine (l3Good_c k v3 (addL l d) wD (Rs.of_own HO3.out) (by omega)).mono ?_
                all_goals rintro e wE ⟨rfl, bE⟩
                all_goals have HTE := Lib.hid (HTD.out.trans (bE.mono HTD.out.size))
                all_goals have HOE := Lib.hid (owns_below HO3.out bE)
                all_goals clear bE
                all_goals cases hga : good k (addL l d)
                all_goals have HGA := Lib.hid hga
                all_goals clear hga
                all_goals go_wp2
                all_goals go_ret2
                all_goals first
                  | (have HN : adOk k l d = true := by unfold adOk adIn; rw [HGA.out, HGB.out, decide_eq_true h1w]; rfl
                     refine ⟨v3, ret_v HN.symm, ?_, HTE.out⟩
                     rw [ad_yes HN]
                     exact HOE.out)
                  | (have HN : adOk k l d = false := by unfold adOk; rw [HGA.out, Bool.and_false]
                     refine ⟨_, ret_v HN.symm, ?_, HTE.out.alloc HTE.out.size _⟩
                     rw [ad_no HN]
                     exact World.ownsRow_made wE #[] 0 HTE.out.size (by decide) rfl)
              · go_wp2_with fail
                have HTA : Hid (Below w.heap.size w ((w3.setCell ⟨w.heap.size + 1, 2, none⟩ (.int .i64 SW)).drew)) := Lib.hid ((HT3.out.setCell (p := ⟨w.heap.size + 1, 2, none⟩) (by show w.heap.size ≤ w.heap.size + 1; omega) _).drew)
                have D0 : ((w3.setCell ⟨w.heap.size + 1, 2, none⟩ (.int .i64 SW)).drew).cell? ⟨w.heap.size + 1, 0, none⟩ = some (.int .i64 d.a) := (by show (w3.setCell ⟨w.heap.size + 1, 2, none⟩ (.int .i64 SW)).cell? _ = _; rw [World.cell?_setCell_other _ _ _ _ (by simp)]; exact x0)
                have D1 : ((w3.setCell ⟨w.heap.size + 1, 2, none⟩ (.int .i64 SW)).drew).cell? ⟨w.heap.size + 1, 1, none⟩ = some (.int .i64 d.s) := (by show (w3.setCell ⟨w.heap.size + 1, 2, none⟩ (.int .i64 SW)).cell? _ = _; rw [World.cell?_setCell_other _ _ _ _ (by simp)]; exact x1)
                have D2 : ((w3.setCell ⟨w.heap.size + 1, 2, none⟩ (.int .i64 SW)).drew).cell? ⟨w.heap.size + 1, 2, none⟩ = some (.int .i64 SW) := (by show (w3.setCell ⟨w.heap.size + 1, 2, none⟩ (.int .i64 SW)).cell? _ = _; rw [World.cell?_setCell_same w3 _ _ (u := .int .i64 d.w) x2])
                obtain ⟨y0, y1, y2, y3, y4⟩ : ((w3.setCell ⟨w.heap.size + 1, 2, none⟩ (.int .i64 SW)).drew).cell? ⟨w.heap.size, 0, none⟩ = some (.int .i64 k.i) ∧ ((w3.setCell ⟨w.heap.size + 1, 2, none⟩ (.int .i64 SW)).drew).cell? ⟨w.heap.size, 1, none⟩ = some (.int .i64 k.s) ∧ ((w3.setCell ⟨w.heap.size + 1, 2, none⟩ (.int .i64 SW)).drew).cell? ⟨w.heap.size, 2, none⟩ = some (.int .i64 k.w) ∧ ((w3.setCell ⟨w.heap.size + 1, 2, none⟩ (.int .i64 SW)).drew).cell? ⟨w.heap.size, 3, none⟩ = some (.int .i64 k.g) ∧ ((w3.setCell ⟨w.heap.size + 1, 2, none⟩ (.int .i64 SW)).drew).cell? ⟨w.heap.size, 4, none⟩ = some (.int .i64 k.p) := ⟨(by show (w3.setCell ⟨w.heap.size + 1, 2, none⟩ (.int .i64 SW)).cell? _ = _; rw [World.cell?_setCell_other _ _ _ _ (by simp)]; exact HKZ.out.1), (by show (w3.setCell ⟨w.heap.size + 1, 2, none⟩ (.int .i64 SW)).cell? _ = _; rw [World.cell?_setCell_other _ _ _ _ (by simp)]; exact HKZ.out.2.1), (by show (w3.setCell ⟨w.heap.size + 1, 2, none⟩ (.int .i64 SW)).cell? _ = _; rw [World.cell?_setCell_other _ _ _ _ (by simp)]; exact HKZ.out.2.2.1), (by show (w3.setCell ⟨w.heap.size + 1, 2, none⟩ (.int .i64 SW)).cell? _ = _; rw [World.cell?_setCell_other _ _ _ _ (by simp)]; exact HKZ.out.2.2.2.1), (by show (w3.setCell ⟨w.heap.size + 1, 2, none⟩ (.int .i64 SW)).cell? _ = _; rw [World.cell?_setCell_other _ _ _ _ (by simp)]; exact HKZ.out.2.2.2.2)⟩
                have hszA : w.heap.size + 2 ≤ ((w3.setCell ⟨w.heap.size + 1, 2, none⟩ (.int .i64 SW)).drew).heap.size := by simp; omega
                clear x0 x1 x2 xf xq HKZ
                generalize (w3.setCell ⟨w.heap.size + 1, 2, none⟩ (.int .i64 SW)).drew = wA at *
                have HKA : Hid (∀ W, Below wA.heap.size wA W → W.cell? ⟨w.heap.size, 0, none⟩ = some (.int .i64 k.i) ∧ W.cell? ⟨w.heap.size, 1, none⟩ = some (.int .i64 k.s) ∧ W.cell? ⟨w.heap.size, 2, none⟩ = some (.int .i64 k.w) ∧ W.cell? ⟨w.heap.size, 3, none⟩ = some (.int .i64 k.g) ∧ W.cell? ⟨w.heap.size, 4, none⟩ = some (.int .i64 k.p)) := Lib.hid (fun W h => ⟨(h.cell (by show w.heap.size < _; omega)).trans y0, (h.cell (by show w.heap.size < _; omega)).trans y1, (h.cell (by show w.heap.size < _; omega)).trans y2, (h.cell (by show w.heap.size < _; omega)).trans y3, (h.cell (by show w.heap.size < _; omega)).trans y4⟩)
                clear y0 y1 y2 y3 y4
                have HKS : Hid (∀ W, Below wA.heap.size wA W → Below wA.heap.size wA W ∧ W.cell? ⟨w.heap.size + 1, 0, none⟩ = some (.int .i64 d.a) ∧ W.cell? ⟨w.heap.size + 1, 1, none⟩ = some (.int .i64 d.s) ∧ W.cell? ⟨w.heap.size + 1, 2, none⟩ = some (.int .i64 SW)) := Lib.hid (fun W h => ⟨h, (h.cell (by show w.heap.size + 1 < _; omega)).trans D0, (h.cell (by show w.heap.size + 1 < _; omega)).trans D1, (h.cell (by show w.heap.size + 1 < _; omega)).trans D2⟩)
                have HOA := Lib.hid (owns_below HO.out HTA.out)
                have HS1 : Hid (∀ W, Below wA.heap.size wA W → ∀ j u, (dmgs (l.take p))[j]? = some u → W.cell? ((⟨g, 0, none⟩ : Addr).add j) = some u) := Lib.hid (fun W h j u hu => (h.cell (by rw [gs_addr]; show g < _; omega)).trans (HOA.out.cells (g := g) rfl j u (by
                  have e : dmgs l = dmgs (l.take p) ++ dmgs (l.drop p) := by rw [← dmgs_append, List.take_append_drop]
                  rw [e, List.getElem?_append_left (List.getElem?_eq_some_iff.1 hu).1]; exact hu)))
                have HS3 : Hid (∀ W, Below wA.heap.size wA W → 0 < (l.length - p - 1) → ∃ ad : Addr, ((some ⟨g, p * 3 + 3, none⟩) : Option Addr) = some ad ∧ ∀ j u, (dmgs (l.drop (p + 1)))[j]? = some u → W.cell? (ad.add j) = some u) := Lib.hid (fun W h hrn => ⟨⟨g, (p + 1) * 3, none⟩, by rw [show (p + 1) * 3 = p * 3 + 3 by omega], fun j u hu => by
                  have h1 := HOA.out.cells (g := g) rfl ((p + 1) * 3 + j) u (by
                    have e : dmgs l = dmgs (l.take (p + 1)) ++ dmgs (l.drop (p + 1)) := by rw [← dmgs_append, List.take_append_drop]
                    have hl : (dmgs (l.take (p + 1))).length = (p + 1) * 3 := dmgs_take_len l _ (by omega)
                    rw [e, List.getElem?_append_right (by omega), hl, Nat.add_sub_cancel_left]; exact hu)
                  rw [gs_addr] at h1 ⊢
                  rw [h.cell (by show g < _; omega)]
                  simpa using h1⟩)
                have hlt1 : (dmgs (l.take p)).length = p * 3 := dmgs_take_len l (p) (by omega)
                have hld : (dmgs (l.drop (p + 1))).length = (l.length - p - 1) * 3 := by rw [dmgs_len, List.length_drop] <;> first | done | (congr 1 <;> omega)
                have HP2 : Hid (((wA.alloc (.cells #[] 34)).alloc (.cells #[.int .i64 d.a, .int .i64 d.s, .int .i64 SW] 34)).heap[wA.heap.size + 1]? = some (.cells #[.int .i64 d.a, .int .i64 d.s, .int .i64 SW] 34)) := Lib.hid (by simpa using heap_alloc_new (wA.alloc (.cells #[] 34)) (.cells #[.int .i64 d.a, .int .i64 d.s, .int .i64 SW] 34))
                have HP3 : Hid (((wA.alloc (.cells #[.int .i64 d.a, .int .i64 d.s, .int .i64 SW] 34)).alloc (.cells #[] 34)).heap[wA.heap.size]? = some (.cells #[.int .i64 d.a, .int .i64 d.s, .int .i64 SW] 34)) := Lib.hid ((heap_alloc_old (wA.alloc (.cells #[.int .i64 d.a, .int .i64 d.s, .int .i64 SW] 34)) _ (by simp)).trans (heap_alloc_new wA _))
                have HOR3 : Hid (((wA.alloc (.cells #[.int .i64 d.a, .int .i64 d.s, .int .i64 SW] 34)).alloc (.cells #[] 34)).ownsRow wA.heap.size 34 3 (.slice (some ⟨wA.heap.size + 1, 0, none⟩) 0 0) 0 []) := Lib.hid (by
                  have h := World.ownsRow_made (wA.alloc (.cells #[.int .i64 d.a, .int .i64 d.s, .int .i64 SW] 34)) #[] 0 (base := wA.heap.size) (e := 34) (size := 3) (by simp) (by decide) rfl
                  rw [show (wA.alloc (.cells #[.int .i64 d.a, .int .i64 d.s, .int .i64 SW] 34)).heap.size = wA.heap.size + 1 by simp] at h
                  exact h)
                have H1a := Lib.hid (dmgs_one_cell (l.take p))
                have H1b := Lib.hid (dmgs_one_cell (l.drop (p + 1)))
                go_region_held3 (fun w' => Below wA.heap.size wA w' ∧ w'.cell? ⟨w.heap.size + 1, 0, none⟩ = some (.int .i64 d.a) ∧ w'.cell? ⟨w.heap.size + 1, 1, none⟩ = some (.int .i64 d.s) ∧ w'.cell? ⟨w.heap.size + 1, 2, none⟩ = some (.int .i64 SW))
                  (exact HKS.out _ (by (first
                      | exact (Below.refl _ _).drew
                      | exact Below.refl _ _
                      | exact (Below.refl _ _).alloc (Nat.le_refl _) _
                      | exact ((Below.refl _ _).alloc (Nat.le_refl _) _).drew
                      | exact (((Below.refl _ _).alloc (Nat.le_refl _) _).alloc (by simp) _).drew
                      | exact ((Below.refl _ _).alloc (Nat.le_refl _) _).alloc (by simp) _
                      | (go_split_ands; refine Below.grown ?_ hgrow3 (Below.size (B := wA.heap.size) ?_) (fun k hk => (hown2'.lt k hk).1) <;> assumption)
                      | (go_split_ands; refine Below.grown ?_ hgrow2 (Below.size (B := wA.heap.size) ?_) (fun k hk => (hown1'.lt k hk).1) <;> assumption)
                      | (go_split_ands; refine Below.alloc ?_ (Below.size (B := wA.heap.size) ?_) _ <;> assumption)
                      | (go_split_ands; refine Below.drew ?_; refine Below.alloc ?_ (Below.size (B := wA.heap.size) ?_) _ <;> assumption)
                      | (go_split_ands; refine Below.grown ?_ hgrow1 (Below.size (B := wA.heap.size) ?_) (fun k hk => by simp [Value.ownBlock] at hk; omega) <;> assumption))))
                  (first
                    | (refine step_append_any _ (by rfl) _ _ _ (by rfl) wA.heap.size 34 i0 (.agg #[.int .i64 0, .int .i64 0, .int .i64 0]) 3 24 Try.underlying26 hi hz0 hz1 hz2 rfl (by omega) (.slice (some ⟨_, 0, none⟩) 0 0) 0 [] (by rfl) (by first | exact World.ownsRow_made wA #[] 0 (Nat.le_refl _) (by decide) rfl | exact (World.ownsRow_made wA #[] 0 (Nat.le_refl _) (by decide) rfl).alloc (.cells #[.int .i64 d.a, .int .i64 d.s, .int .i64 SW] 34) | exact HOR3.out | fail) (some ⟨g, 0, none⟩) (p) ca (dmgs (l.take p)) (by rfl) hlt1 (fun _ => ⟨_, rfl, HS1.out _ (by go_split_ands; assumption)⟩) H1a.out (by unfold maxLen; omega) (by omega) (by first | assumption | (simp; done) | (simp; omega) | fail) ?_; intro v1 wB hown1 hgrow1 hat1; have hzB : wA.heap.size ≤ wB.heap.size := by have h := hgrow1.size; simp at h; omega)
                    | (refine step_append_any _ (by rfl) _ _ _ (by rfl) wA.heap.size 34 i0 (.agg #[.int .i64 0, .int .i64 0, .int .i64 0]) 3 24 Try.underlying26 hi hz0 hz1 hz2 rfl (by omega) v2 _ _ (by rfl) hown2 (some ⟨g, p * 3 + 3, none⟩) (l.length - p - 1) (ca - p - 1) (dmgs (l.drop (p + 1))) (by rfl) hld (HS3.out _ (by go_split_ands; assumption)) H1b.out (by unfold maxLen; omega) (by omega) (by first | assumption | (simp; done) | (simp; omega) | fail) ?_; have hown2' := hown2; intro v3 wD hown3 hgrow3 hat3; have hzD : wA.heap.size ≤ wD.heap.size := by have h := hgrow3.size; omega)
                    | (refine step_append_any _ (by rfl) _ _ _ (by rfl) wA.heap.size 34 i0 (.agg #[.int .i64 0, .int .i64 0, .int .i64 0]) 3 24 Try.underlying26 hi hz0 hz1 hz2 rfl (by omega) v1 _ _ (by rfl) (by first | exact hown1 | exact hown1.alloc _ | fail) _ 1 1 [.int .i64 d.a, .int .i64 d.s, .int .i64 SW] (by rfl) rfl (fun _ => ⟨_, rfl, World.news_of_block (cs := #[.int .i64 d.a, .int .i64 d.s, .int .i64 SW]) (t := 34) (fr := (0, 0)) (by first
                        | exact (hgrow1.block (wA.heap.size + 1) (by simp) (by simp [Value.ownBlock])).trans HP2.out
                        | exact (hgrow1.block wA.heap.size (by simp <;> omega) (by simp [Value.ownBlock])).trans HP3.out
                        | exact heap_alloc_new wB _
                        | fail)⟩) (by simp [Value.oneCell']) (by unfold maxLen; omega) (by omega) (by first | assumption | (simp; done) | (simp; omega) | fail) ?_; have hown1' := hown1; intro v2 wC hown2 hgrow2 hat2; have hzC : wA.heap.size ≤ wC.heap.size := by have h := hgrow2.size; first | omega | (simp at h; omega))
                    | fail)
                all_goals have hBD : Below wA.heap.size wA wD := by go_split_ands; assumption
                all_goals obtain ⟨y0, y1, y2, y3, y4⟩ := HKA.out _ hBD
                all_goals have HTD : Hid (Below w.heap.size w wD) := Lib.hid (HTA.out.trans (hBD.mono (by omega)))
                all_goals have HO3 : Hid (wD.ownsRow w.heap.size 34 3 v3 (addL l d).length (dmgs (addL l d))) := Lib.hid (by
                  have e1 := (HAY.out HF.out)
                  have hl : (addL l d).length = 0 + (p) + 1 + (l.length - p - 1) := by rw [e1, List.length_append, List.length_append, List.length_take, List.length_drop, Nat.min_eq_left (by omega)]; simp <;> omega
                  have hx : dmgs (addL l d) = [] ++ dmgs (l.take (p)) ++ [.int .i64 d.a, .int .i64 d.s, .int .i64 SW] ++ dmgs (l.drop ((p + 1))) := by rw [e1, dmgs_append, dmgs_append, dmgs_one]; simp only [List.nil_append, List.append_assoc]
                  rw [hl, hx]
                  exact own_mono hown3 (by omega))
                all_goals have hal := addL_len l d
                all_goals clear hown3 hown2 hown1 hgrow1 hgrow2 hgrow3
                all_goals go_wp2_with fail
                all_goals refine (l3Good_c k v3 (addL l d) wD (Rs.of_own HO3.out) (by omega)).mono ?_
                all_goals rintro e wE ⟨rfl, bE⟩
                all_goals have HTE := Lib.hid (HTD.out.trans (bE.mono HTD.out.size))
                all_goals have HOE := Lib.hid (owns_below HO3.out bE)
                all_goals clear bE
                all_goals cases hga : good k (addL l d)
                all_goals have HGA := Lib.hid hga
                all_goals clear hga
                all_goals go_wp2
                all_goals go_ret2
                all_goals first
                  | (have HN : adOk k l d = true := by unfold adOk adIn; rw [HGA.out, HGB.out, decide_eq_true h1w]; rfl
                     refine ⟨v3, ret_v HN.symm, ?_, HTE.out⟩
                     rw [ad_yes HN]
                     exact HOE.out)
                  | (have HN : adOk k l d = false := by unfold adOk; rw [HGA.out, Bool.and_false]
                     refine ⟨_, ret_v HN.symm, ?_, HTE.out.alloc HTE.out.size _⟩
                     rw [ad_no HN]
                     exact World.ownsRow_made wE #[] 0 HTE.out.size (by decide) rfl)

      · have hlw : d.w < 1 := by omega
        have HN := Lib.hid (ad_not1 (k := k) (l := l) (d := d) (.inr h1w))
        have HR0 := Lib.hid (ad_no HN.out)
        go_wp2
        go_ret2
        refine ⟨_, ret_v HN.out.symm, ?_, HT1.out.alloc HT1.out.size _⟩
        rw [HR0.out]
        exact World.ownsRow_made w1 #[] 0 HT1.out.size (by decide) rfl
end Go.Proofs.Ytiogjocbiagipab
