/- spec.l12Of: the vote, by insertion. Condition: at most twelve sensors. -/
import Derived.Test.YtoamhbobcpljpaaVotC
import Derived.Deep.RegionHeld3
import Derived.StillTailTactics
namespace Go.Proofs.Ytoamhbobcpljpaa
open Go.RowKit
set_option linter.unusedVariables false
theorem own_threeV {h0 h1 h2 : Nat} {g : Nat} {v1 v2 v3 : Value} {c0 : Nat} (a1 : v1.ownBlock = (Value.slice (some ⟨g, 0, none⟩) 0 c0).ownBlock ∨ v1.ownBlock = some h0) (a2 : v2.ownBlock = v1.ownBlock ∨ v2.ownBlock = some h1) (a3 : v3.ownBlock = v2.ownBlock ∨ v3.ownBlock = some h2) : v3.ownBlock ≠ none := by
  have e1 : v1.ownBlock ≠ none := by rcases a1 with h | h <;> rw [h] <;> simp [Value.ownBlock]
  have e2 : v2.ownBlock ≠ none := by rcases a2 with h | h <;> rw [h]; exact e1; simp
  rcases a3 with h | h <;> rw [h]
  · exact e2
  · simp
theorem intVs_append (a b : List Int) : intVs (a ++ b) = intVs a ++ intVs b := by simp [intVs]
theorem intVs_cell (a : List Int) : ∀ v ∈ intVs a, v.oneCell' = true := by
  intro v hv
  obtain ⟨x, _, rfl⟩ := List.mem_map.1 hv
  rfl
set_option maxRecDepth 100000 in
set_option maxHeartbeats 8000000 in
theorem l12Of_c (v : Value) (l : List Int) (w : World) (hr : Rd w v (intVs l)) (hn : 1 ≤ l.length ∧ l.length ≤ 5) :
    Calls Try.prog 75 #[v] w fun e w' => e = .returned (.int .i64 (vtO l)) ∧ Below w.heap.size w w' := by
  obtain ⟨i0, hi, hz0, hz1, hz2⟩ := info_parts Try.infoIntR
  obtain ⟨ao, a, oa, cc, rfl, hao, hat⟩ := hr.formR
  have HA := Lib.hid hao
  have HL := Lib.hid hat
  clear hr hao hat
  go_enter Try.func75, Try.ntmps75
  go_wp2
  go_loopw [3, 4] (fun o i wr => ∃ t : Nat, t ≤ l.length ∧ i = .int .i64 t ∧ wr.ownsRow w.heap.size 3 1 o (wkL (l.take t)).length (intVs (srt (wkL (l.take t)))) ∧ Hid (o.ownBlock ≠ none) ∧ Hid (Below w.heap.size w wr)) (fun _ i _ => l.length - (intOf i).toNat)
  case atStart => exact ⟨0, by omega, rfl, by rw [List.take_zero, show wkL [] = [] from rfl, srt_nil]; exact own_none rfl (Nat.le_refl _), Lib.hid (by simp [Value.ownBlock]), Lib.hid ((Below.refl _ _).alloc (Nat.le_refl _) _)⟩
  case round =>
    obtain ⟨t, ht, rfl, hown, hnn, hbel⟩ := hrel
    obtain ⟨wo, hwo⟩ : ∃ wo : World, wr = wo := ⟨_, rfl⟩
    subst hwo
    have hwk := wk_le (l.take t)
    rw [List.length_take] at hwk
    by_cases hlt : t < l.length
    · rcases own_form hown with ⟨h0, rfl⟩ | ⟨g, ca, rfl, hBg, hgw, hnc, hcm⟩
      · exact absurd rfl hnn.out
      · skip
        obtain ⟨rfl, hla, hlm⟩ := HA.out (by omega)
        have hbs := hbel.out.size
        have c0 := (HL.out.below hbel.out hla) t hlt
        have HNO := Lib.hid (fun h => wk_no hlt h)
        have HYE := Lib.hid (fun h => wk_yes hlt h)
        have HXC : Hid (∀ W, Below w.heap.size w W → W.cell? ⟨a, oa + t, none⟩ = some (.int .i64 (l.getD t 0))) := Lib.hid (fun W h => (HL.out.below h hla) t hlt)
        generalize l.getD t 0 = D at *
        by_cases hneg : D < 0
        · have t1 : decide (D < 0) = true := by simpa using hneg
          have HS := Lib.hid (HNO.out hneg)
          have HOO := Lib.hid hown
          clear hneg HYE hown
          go_wp2
          go_roundw
          case rel => exact ⟨t + 1, by omega, by go_num, by rw [HS.out]; exact HOO.out, hnn, hbel⟩
          case measure => simp [intOf]; omega
        · have t1 : decide (D < 0) = false := by simpa using hneg
          have HS := Lib.hid (HYE.out (by omega))
          have HOL : Hid ((srt (wkL (l.take t))).length = (wkL (l.take t)).length) := Lib.hid (srt_len _)
          have HPUT : Hid (∀ k, k ≤ (wkL (l.take t)).length → (0 < k → gth (srt (wkL (l.take t))) (k - 1) ≤ D) → (k < (wkL (l.take t)).length → D < gth (srt (wkL (l.take t))) k) → (srt (wkL (l.take t))).take k ++ [D] ++ (srt (wkL (l.take t))).drop k = srt (wkL (l.take (t + 1)))) := Lib.hid (fun k hk h1 h2 => by rw [HS.out]; exact put_srtE hk h1 h2)
          have HLN : Hid ((wkL (l.take (t + 1))).length = (wkL (l.take t)).length + 1) := Lib.hid (by rw [HS.out]; simp)
          have HOO := Lib.hid hown
          have HOC : Hid (∀ i, i < (wkL (l.take t)).length → wr.cell? ⟨g, i, none⟩ = some (.int .i64 (gth (srt (wkL (l.take t))) i))) := Lib.hid (fun i h => (hown.cellAt i (by omega)).trans (int_at (by rw [srt_len]; exact h)))
          have hj5 : (wkL (l.take t)).length ≤ 5 := by omega
          clear hneg HYE HNO HS hown hwk
          generalize (srt (wkL (l.take t))) = O at *
          generalize (wkL (l.take t)).length = j at *
          go_wp2
          go_loopw [5] (fun kk w2 => ∃ k m : Nat, k ≤ j ∧ kk = .int .i64 k ∧ w2 = wr.drewN m ∧ Hid (k < j → D < gth O k)) (fun kk _ => (intOf kk).toNat)
          case atStart => exact ⟨j, 0, Nat.le_refl _, rfl, rfl, Lib.hid (fun h => by omega)⟩
          case round =>
            obtain ⟨k, m, hkj, rfl, rfl, hpk⟩ := hrel
            by_cases hk0 : 0 < k
            · obtain ⟨p1, p2, p3⟩ := pred_in k hk0 (by omega)
              have hgt : (0 : Int) < (k : Int) := by omega
              have hq : wr.cell? ⟨g, k - 1, none⟩ = some (.int .i64 (gth O (k - 1))) := HOC.out (k - 1) (by omega)
              have hx : wr.cell? ⟨a, oa + t, none⟩ = some (.int .i64 D) := HXC.out _ hbel.out
              have hkl : k - 1 < j := by omega
              have hlw : a < wr.heap.size := by omega
              have i1 : (0 : Int) ≤ (t : Int) := by omega
              have i2 : (t : Int) < (l.length : Int) := by omega
              have i3 : (k : Int) - 1 < (j : Int) := by omega
              by_cases hc : D < gth O (k - 1)
              · have HPK2 : Hid (k - 1 < j → D < gth O (k - 1)) := Lib.hid (fun _ => hc)
                have t2 : decide (D < gth O (k - 1)) = true := by simpa using hc
                clear hc
                generalize hE : gth O (k - 1) = E at t2 hq
                clear hE
                go_wp2_with fail
                go_quiet (fail)
                go_wp2
                go_roundw
                case rel => exact ⟨k - 1, m + nq, by omega, by (congr 1; omega), rfl, HPK2⟩
                case measure => simp [intOf]; omega
              · have HPK : Hid (O.take k ++ [D] ++ O.drop k = srt (wkL (l.take (t + 1)))) := Lib.hid (HPUT.out k hkj (fun _ => by omega) hpk.out)
                have t2 : decide (D < gth O (k - 1)) = false := by simpa using hc
                clear hc
                generalize hE : gth O (k - 1) = E at t2 hq
                clear hE
                go_wp2_with fail
                go_quiet (fail)
                go_wp2_with fail
                have hszA : w.heap.size ≤ ((wr.drewN m).drewN nq).heap.size := hbs
                have HTA : Hid (Below w.heap.size w ((wr.drewN m).drewN nq)) := Lib.hid (below_drewN (below_drewN hbel.out m) nq)
                have HOA : Hid (((wr.drewN m).drewN nq).ownsRow w.heap.size 3 1 (.slice (some ⟨g, 0, none⟩) j ca) j (intVs O)) := Lib.hid (own_drew (own_drew HOO.out ⟨m, rfl⟩) ⟨nq, rfl⟩)
                have HXA : Hid (∀ W, Below ((wr.drewN m).drewN nq).heap.size ((wr.drewN m).drewN nq) W → W.cell? ⟨a, oa + t, none⟩ = some (.int .i64 D)) := Lib.hid (fun W h => HXC.out W (HTA.out.trans (h.mono hszA)))
                have hgA : g < ((wr.drewN m).drewN nq).heap.size := hgw
                have hlaA : a < ((wr.drewN m).drewN nq).heap.size := by omega
                generalize ((wr.drewN m).drewN nq) = wA at *
                clear hq hx t2 p1 p2 p3 hgt hk0 hkl hlw i3
                have hb1 : (0 : Int) ≤ (k : Int) := by omega
                have hb2 : (k : Int) ≤ (ca : Int) := by omega
                have hb3 : (k : Int) ≤ (j : Int) := by omega
                have hc1 : (0 : Int) ≤ (t : Int) := by omega
                have hc2 : (t : Int) < (l.length : Int) := by omega
                by_cases hkj2 : k = j
                · subst hkj2
                  by_cases hca : ca = k
                  · subst hca
                    go_wp2_with fail
                    have HKS : Hid (∀ W, Below wA.heap.size wA W → Below wA.heap.size wA W ∧ W.cell? ⟨a, oa + t, none⟩ = some (.int .i64 D)) := Lib.hid (fun W h => ⟨h, HXA.out W h⟩)
                    have HS1 : Hid (∀ W, Below wA.heap.size wA W → ∀ z u, (intVs (O.take ca))[z]? = some u → W.cell? ((⟨g, 0, none⟩ : Addr).add z) = some u) := Lib.hid (fun W h z u hu => (h.cell (by rw [gs_addr]; show g < _; omega)).trans (HOA.out.cells (g := g) rfl z u (by
                      have e : intVs O = intVs (O.take ca) ++ intVs (O.drop ca) := by rw [← intVs_append, List.take_append_drop]
                      rw [e, List.getElem?_append_left (List.getElem?_eq_some_iff.1 hu).1]; exact hu)))
                    have HS3 : Hid (∀ W, Below wA.heap.size wA W → 0 < 0 → ∃ ad : Addr, ((some ⟨g, 0, none⟩) : Option Addr) = some ad ∧ ∀ z u, (intVs (O.drop ca))[z]? = some u → W.cell? (ad.add z) = some u) := Lib.hid (fun W h hrn => ⟨⟨g, ca, none⟩, by omega, fun z u hu => by
                      have h1 := HOA.out.cells (g := g) rfl (ca + z) u (by
                        have e : intVs O = intVs (O.take ca) ++ intVs (O.drop ca) := by rw [← intVs_append, List.take_append_drop]
                        have hl : (intVs (O.take ca)).length = ca := by simp [HOL.out] <;> omega
                        rw [e, List.getElem?_append_right (by omega), hl, Nat.add_sub_cancel_left]; exact hu)
                      rw [gs_addr] at h1 ⊢
                      rw [h.cell (by show g < _; omega)]
                      simpa using h1⟩)
                    have hlt1 : (intVs (O.take ca)).length = ca * 1 := by simp [HOL.out] <;> omega
                    have hld : (intVs (O.drop ca)).length = 0 * 1 := by simp [HOL.out] <;> omega
                    have HP2 : Hid (((wA.alloc (.cells #[] 3)).alloc (.cells #[.int .i64 D] 3)).heap[wA.heap.size + 1]? = some (.cells #[.int .i64 D] 3)) := Lib.hid (by simpa using heap_alloc_new (wA.alloc (.cells #[] 3)) (.cells #[.int .i64 D] 3))
                    have HP3 : Hid (((wA.alloc (.cells #[.int .i64 D] 3)).alloc (.cells #[] 3)).heap[wA.heap.size]? = some (.cells #[.int .i64 D] 3)) := Lib.hid ((heap_alloc_old (wA.alloc (.cells #[.int .i64 D] 3)) _ (by simp)).trans (heap_alloc_new wA _))
                    have HOR3 : Hid (((wA.alloc (.cells #[.int .i64 D] 3)).alloc (.cells #[] 3)).ownsRow wA.heap.size 3 1 (.slice (some ⟨wA.heap.size + 1, 0, none⟩) 0 0) 0 []) := Lib.hid (by
                      have h := World.ownsRow_made (wA.alloc (.cells #[.int .i64 D] 3)) #[] 0 (base := wA.heap.size) (e := 3) (size := 1) (by simp) (by decide) rfl
                      rw [show (wA.alloc (.cells #[.int .i64 D] 3)).heap.size = wA.heap.size + 1 by simp] at h
                      exact h)
                    have H1a := Lib.hid (intVs_cell (O.take ca))
                    have H1b := Lib.hid (intVs_cell (O.drop ca))
                    go_region_held3 (fun w' => Below wA.heap.size wA w' ∧ w'.cell? ⟨a, oa + t, none⟩ = some (.int .i64 D))
                      (exact HKS.out _ (by (first
                        | exact (Below.refl _ _).drew
                        | exact Below.refl _ _
                        | exact (Below.refl _ _).alloc (Nat.le_refl _) _
                        | exact ((Below.refl _ _).alloc (Nat.le_refl _) _).drew
                        | exact (((Below.refl _ _).alloc (Nat.le_refl _) _).alloc (by simp) _).drew
                        | exact ((Below.refl _ _).alloc (Nat.le_refl _) _).alloc (by simp) _
                        | (go_split_ands; refine Below.grown ?_ hgrow3 (Below.size (B := wA.heap.size) ?_) (fun y hy => (hown2'.lt y hy).1) <;> assumption)
                        | (go_split_ands; refine Below.grown ?_ hgrow2 (Below.size (B := wA.heap.size) ?_) (fun y hy => (hown1'.lt y hy).1) <;> assumption)
                        | (go_split_ands; refine Below.alloc ?_ (Below.size (B := wA.heap.size) ?_) _ <;> assumption)
                        | (go_split_ands; refine Below.drew ?_; refine Below.alloc ?_ (Below.size (B := wA.heap.size) ?_) _ <;> assumption)
                        | (go_split_ands; refine Below.grown ?_ hgrow1 (Below.size (B := wA.heap.size) ?_) (fun y hy => by simp [Value.ownBlock] at hy; omega) <;> assumption))))
                      (first
                        | (refine step_append_any _ (by rfl) _ _ _ (by rfl) wA.heap.size 3 i0 (.int .i64 0) 1 8 Try.underlying28 hi hz0 hz1 hz2 rfl (by omega) (.slice (some ⟨_, 0, none⟩) 0 0) 0 [] (by rfl) (by first | exact World.ownsRow_made wA #[] 0 (Nat.le_refl _) (by decide) rfl | exact (World.ownsRow_made wA #[] 0 (Nat.le_refl _) (by decide) rfl).alloc (.cells #[.int .i64 D] 3) | exact HOR3.out | fail) (some ⟨g, 0, none⟩) ca ca (intVs (O.take ca)) (by rfl) hlt1 (fun _ => ⟨_, rfl, HS1.out _ (by go_split_ands; assumption)⟩) H1a.out (by unfold maxLen; omega) (by omega) (by first | assumption | (simp; done) | (simp; omega) | fail) ?_; intro v1 wB hown1 hgrow1 hat1; have hzB : wA.heap.size ≤ wB.heap.size := by have h := hgrow1.size; simp at h; omega)
                        | (refine step_append_any _ (by rfl) _ _ _ (by rfl) wA.heap.size 3 i0 (.int .i64 0) 1 8 Try.underlying28 hi hz0 hz1 hz2 rfl (by omega) v2 _ _ (by rfl) hown2 (some ⟨g, 0, none⟩) 0 0 (intVs (O.drop ca)) (by rfl) hld (HS3.out _ (by go_split_ands; assumption)) H1b.out (by unfold maxLen; omega) (by omega) (by first | assumption | (simp; done) | (simp; omega) | fail) ?_; have hown2' := hown2; intro v3 wD hown3 hgrow3 hat3; have hzD : wA.heap.size ≤ wD.heap.size := by have h := hgrow3.size; omega)
                        | (refine step_append_any _ (by rfl) _ _ _ (by rfl) wA.heap.size 3 i0 (.int .i64 0) 1 8 Try.underlying28 hi hz0 hz1 hz2 rfl (by omega) v1 _ _ (by rfl) (by first | exact hown1 | exact hown1.alloc _ | fail) _ 1 1 [.int .i64 D] (by rfl) rfl (fun _ => ⟨_, rfl, World.news_of_block (cs := #[.int .i64 D]) (t := 3) (fr := (0, 0)) (by first
                            | exact (hgrow1.block (wA.heap.size + 1) (by simp) (by simp [Value.ownBlock])).trans HP2.out
                            | exact (hgrow1.block wA.heap.size (by simp <;> omega) (by simp [Value.ownBlock])).trans HP3.out
                            | exact heap_alloc_new wB _
                            | fail)⟩) (by simp [Value.oneCell']) (by unfold maxLen; omega) (by omega) (by first | assumption | (simp; done) | (simp; omega) | fail) ?_; have hown1' := hown1; intro v2 wC hown2 hgrow2 hat2; have hzC : wA.heap.size ≤ wC.heap.size := by have h := hgrow2.size; first | omega | (simp at h; omega))
                        | fail)
                    all_goals have hBD : Below wA.heap.size wA wD := by go_split_ands; assumption
                    all_goals have HTD : Hid (Below w.heap.size w wD) := Lib.hid (HTA.out.trans (hBD.mono (by omega)))
                    all_goals have HNN : Hid (v3.ownBlock ≠ none) := Lib.hid (own_threeV hat1 hat2 hat3)
                    all_goals have HO3 : Hid (wD.ownsRow w.heap.size 3 1 v3 (wkL (l.take (t + 1))).length (intVs (srt (wkL (l.take (t + 1)))))) := Lib.hid (by
                      have hl : ca + 1 = 0 + ca + 1 + 0 := by omega
                      have hx : intVs (srt (wkL (l.take (t + 1)))) = [] ++ intVs (O.take ca) ++ [.int .i64 D] ++ intVs (O.drop ca) := by rw [← HPK.out, intVs_append, intVs_append]; simp [intVs]
                      rw [HLN.out, hx, hl]
                      exact own_mono hown3 (by omega))
                    all_goals clear hown3 hown2 hown1 hgrow1 hgrow2 hgrow3 hat1 hat2 hat3
                    all_goals go_wp2
                    all_goals go_roundw
                    all_goals first
                      | (case rel => exact ⟨t + 1, by omega, by go_num, HO3.out, HNN, HTD⟩)
                      | skip
                    all_goals first
                      | (case measure => simp [intOf]; omega)
                      | skip
                  · skip
                    go_wp2_with fail
                    have HKS : Hid (∀ W, Below wA.heap.size wA W → Below wA.heap.size wA W ∧ W.cell? ⟨a, oa + t, none⟩ = some (.int .i64 D)) := Lib.hid (fun W h => ⟨h, HXA.out W h⟩)
                    have HS1 : Hid (∀ W, Below wA.heap.size wA W → ∀ z u, (intVs (O.take k))[z]? = some u → W.cell? ((⟨g, 0, none⟩ : Addr).add z) = some u) := Lib.hid (fun W h z u hu => (h.cell (by rw [gs_addr]; show g < _; omega)).trans (HOA.out.cells (g := g) rfl z u (by
                      have e : intVs O = intVs (O.take k) ++ intVs (O.drop k) := by rw [← intVs_append, List.take_append_drop]
                      rw [e, List.getElem?_append_left (List.getElem?_eq_some_iff.1 hu).1]; exact hu)))
                    have HS3 : Hid (∀ W, Below wA.heap.size wA W → 0 < 0 → ∃ ad : Addr, ((some ⟨g, k, none⟩) : Option Addr) = some ad ∧ ∀ z u, (intVs (O.drop k))[z]? = some u → W.cell? (ad.add z) = some u) := Lib.hid (fun W h hrn => ⟨⟨g, k, none⟩, rfl, fun z u hu => by
                      have h1 := HOA.out.cells (g := g) rfl (k + z) u (by
                        have e : intVs O = intVs (O.take k) ++ intVs (O.drop k) := by rw [← intVs_append, List.take_append_drop]
                        have hl : (intVs (O.take k)).length = k := by simp [HOL.out] <;> omega
                        rw [e, List.getElem?_append_right (by omega), hl, Nat.add_sub_cancel_left]; exact hu)
                      rw [gs_addr] at h1 ⊢
                      rw [h.cell (by show g < _; omega)]
                      simpa using h1⟩)
                    have hlt1 : (intVs (O.take k)).length = k * 1 := by simp [HOL.out] <;> omega
                    have hld : (intVs (O.drop k)).length = 0 * 1 := by simp [HOL.out] <;> omega
                    have HP2 : Hid (((wA.alloc (.cells #[] 3)).alloc (.cells #[.int .i64 D] 3)).heap[wA.heap.size + 1]? = some (.cells #[.int .i64 D] 3)) := Lib.hid (by simpa using heap_alloc_new (wA.alloc (.cells #[] 3)) (.cells #[.int .i64 D] 3))
                    have HP3 : Hid (((wA.alloc (.cells #[.int .i64 D] 3)).alloc (.cells #[] 3)).heap[wA.heap.size]? = some (.cells #[.int .i64 D] 3)) := Lib.hid ((heap_alloc_old (wA.alloc (.cells #[.int .i64 D] 3)) _ (by simp)).trans (heap_alloc_new wA _))
                    have HOR3 : Hid (((wA.alloc (.cells #[.int .i64 D] 3)).alloc (.cells #[] 3)).ownsRow wA.heap.size 3 1 (.slice (some ⟨wA.heap.size + 1, 0, none⟩) 0 0) 0 []) := Lib.hid (by
                      have h := World.ownsRow_made (wA.alloc (.cells #[.int .i64 D] 3)) #[] 0 (base := wA.heap.size) (e := 3) (size := 1) (by simp) (by decide) rfl
                      rw [show (wA.alloc (.cells #[.int .i64 D] 3)).heap.size = wA.heap.size + 1 by simp] at h
                      exact h)
                    have H1a := Lib.hid (intVs_cell (O.take k))
                    have H1b := Lib.hid (intVs_cell (O.drop k))
                    go_region_held3 (fun w' => Below wA.heap.size wA w' ∧ w'.cell? ⟨a, oa + t, none⟩ = some (.int .i64 D))
                      (exact HKS.out _ (by (first
                        | exact (Below.refl _ _).drew
                        | exact Below.refl _ _
                        | exact (Below.refl _ _).alloc (Nat.le_refl _) _
                        | exact ((Below.refl _ _).alloc (Nat.le_refl _) _).drew
                        | exact (((Below.refl _ _).alloc (Nat.le_refl _) _).alloc (by simp) _).drew
                        | exact ((Below.refl _ _).alloc (Nat.le_refl _) _).alloc (by simp) _
                        | (go_split_ands; refine Below.grown ?_ hgrow3 (Below.size (B := wA.heap.size) ?_) (fun y hy => (hown2'.lt y hy).1) <;> assumption)
                        | (go_split_ands; refine Below.grown ?_ hgrow2 (Below.size (B := wA.heap.size) ?_) (fun y hy => (hown1'.lt y hy).1) <;> assumption)
                        | (go_split_ands; refine Below.alloc ?_ (Below.size (B := wA.heap.size) ?_) _ <;> assumption)
                        | (go_split_ands; refine Below.drew ?_; refine Below.alloc ?_ (Below.size (B := wA.heap.size) ?_) _ <;> assumption)
                        | (go_split_ands; refine Below.grown ?_ hgrow1 (Below.size (B := wA.heap.size) ?_) (fun y hy => by simp [Value.ownBlock] at hy; omega) <;> assumption))))
                      (first
                        | (refine step_append_any _ (by rfl) _ _ _ (by rfl) wA.heap.size 3 i0 (.int .i64 0) 1 8 Try.underlying28 hi hz0 hz1 hz2 rfl (by omega) (.slice (some ⟨_, 0, none⟩) 0 0) 0 [] (by rfl) (by first | exact World.ownsRow_made wA #[] 0 (Nat.le_refl _) (by decide) rfl | exact (World.ownsRow_made wA #[] 0 (Nat.le_refl _) (by decide) rfl).alloc (.cells #[.int .i64 D] 3) | exact HOR3.out | fail) (some ⟨g, 0, none⟩) k ca (intVs (O.take k)) (by rfl) hlt1 (fun _ => ⟨_, rfl, HS1.out _ (by go_split_ands; assumption)⟩) H1a.out (by unfold maxLen; omega) (by omega) (by first | assumption | (simp; done) | (simp; omega) | fail) ?_; intro v1 wB hown1 hgrow1 hat1; have hzB : wA.heap.size ≤ wB.heap.size := by have h := hgrow1.size; simp at h; omega)
                        | (refine step_append_any _ (by rfl) _ _ _ (by rfl) wA.heap.size 3 i0 (.int .i64 0) 1 8 Try.underlying28 hi hz0 hz1 hz2 rfl (by omega) v2 _ _ (by rfl) hown2 (some ⟨g, k, none⟩) 0 (ca - k) (intVs (O.drop k)) (by rfl) hld (HS3.out _ (by go_split_ands; assumption)) H1b.out (by unfold maxLen; omega) (by omega) (by first | assumption | (simp; done) | (simp; omega) | fail) ?_; have hown2' := hown2; intro v3 wD hown3 hgrow3 hat3; have hzD : wA.heap.size ≤ wD.heap.size := by have h := hgrow3.size; omega)
                        | (refine step_append_any _ (by rfl) _ _ _ (by rfl) wA.heap.size 3 i0 (.int .i64 0) 1 8 Try.underlying28 hi hz0 hz1 hz2 rfl (by omega) v1 _ _ (by rfl) (by first | exact hown1 | exact hown1.alloc _ | fail) _ 1 1 [.int .i64 D] (by rfl) rfl (fun _ => ⟨_, rfl, World.news_of_block (cs := #[.int .i64 D]) (t := 3) (fr := (0, 0)) (by first
                            | exact (hgrow1.block (wA.heap.size + 1) (by simp) (by simp [Value.ownBlock])).trans HP2.out
                            | exact (hgrow1.block wA.heap.size (by simp <;> omega) (by simp [Value.ownBlock])).trans HP3.out
                            | exact heap_alloc_new wB _
                            | fail)⟩) (by simp [Value.oneCell']) (by unfold maxLen; omega) (by omega) (by first | assumption | (simp; done) | (simp; omega) | fail) ?_; have hown1' := hown1; intro v2 wC hown2 hgrow2 hat2; have hzC : wA.heap.size ≤ wC.heap.size := by have h := hgrow2.size; first | omega | (simp at h; omega))
                        | fail)
                    all_goals have hBD : Below wA.heap.size wA wD := by go_split_ands; assumption
                    all_goals have HTD : Hid (Below w.heap.size w wD) := Lib.hid (HTA.out.trans (hBD.mono (by omega)))
                    all_goals have HNN : Hid (v3.ownBlock ≠ none) := Lib.hid (own_threeV hat1 hat2 hat3)
                    all_goals have HO3 : Hid (wD.ownsRow w.heap.size 3 1 v3 (wkL (l.take (t + 1))).length (intVs (srt (wkL (l.take (t + 1)))))) := Lib.hid (by
                      have hl : k + 1 = 0 + k + 1 + 0 := by omega
                      have hx : intVs (srt (wkL (l.take (t + 1)))) = [] ++ intVs (O.take k) ++ [.int .i64 D] ++ intVs (O.drop k) := by rw [← HPK.out, intVs_append, intVs_append]; simp [intVs]
                      rw [HLN.out, hx, hl]
                      exact own_mono hown3 (by omega))
                    all_goals clear hown3 hown2 hown1 hgrow1 hgrow2 hgrow3 hat1 hat2 hat3
                    all_goals go_wp2
                    all_goals go_roundw
                    all_goals first
                      | (case rel => exact ⟨t + 1, by omega, by go_num, HO3.out, HNN, HTD⟩)
                      | skip
                    all_goals first
                      | (case measure => simp [intOf]; omega)
                      | skip
                · have hca : ¬ ca = k := by omega
                  have t4 : decide ((0 : Int) < ((j - k : Nat) : Int)) = true := by simp; omega
                  have t6 : decide (k < j) = true := by simp; omega
                  have t7 : decide (0 < j - k) = true := by simp; omega
                  have t8 : decide ((k : Int) < (j : Int)) = true := by simp; omega
                  have t9 : 0 < j - k := by omega
                  go_wp2_with fail
                  have HKS : Hid (∀ W, Below wA.heap.size wA W → Below wA.heap.size wA W ∧ W.cell? ⟨a, oa + t, none⟩ = some (.int .i64 D)) := Lib.hid (fun W h => ⟨h, HXA.out W h⟩)
                  have HS1 : Hid (∀ W, Below wA.heap.size wA W → ∀ z u, (intVs (O.take k))[z]? = some u → W.cell? ((⟨g, 0, none⟩ : Addr).add z) = some u) := Lib.hid (fun W h z u hu => (h.cell (by rw [gs_addr]; show g < _; omega)).trans (HOA.out.cells (g := g) rfl z u (by
                    have e : intVs O = intVs (O.take k) ++ intVs (O.drop k) := by rw [← intVs_append, List.take_append_drop]
                    rw [e, List.getElem?_append_left (List.getElem?_eq_some_iff.1 hu).1]; exact hu)))
                  have HS3 : Hid (∀ W, Below wA.heap.size wA W → 0 < (j - k) → ∃ ad : Addr, ((some ⟨g, k, none⟩) : Option Addr) = some ad ∧ ∀ z u, (intVs (O.drop k))[z]? = some u → W.cell? (ad.add z) = some u) := Lib.hid (fun W h hrn => ⟨⟨g, k, none⟩, rfl, fun z u hu => by
                    have h1 := HOA.out.cells (g := g) rfl (k + z) u (by
                      have e : intVs O = intVs (O.take k) ++ intVs (O.drop k) := by rw [← intVs_append, List.take_append_drop]
                      have hl : (intVs (O.take k)).length = k := by simp [HOL.out] <;> omega
                      rw [e, List.getElem?_append_right (by omega), hl, Nat.add_sub_cancel_left]; exact hu)
                    rw [gs_addr] at h1 ⊢
                    rw [h.cell (by show g < _; omega)]
                    simpa using h1⟩)
                  have hlt1 : (intVs (O.take k)).length = k * 1 := by simp [HOL.out] <;> omega
                  have hld : (intVs (O.drop k)).length = (j - k) * 1 := by simp [HOL.out] <;> omega
                  have HP2 : Hid (((wA.alloc (.cells #[] 3)).alloc (.cells #[.int .i64 D] 3)).heap[wA.heap.size + 1]? = some (.cells #[.int .i64 D] 3)) := Lib.hid (by simpa using heap_alloc_new (wA.alloc (.cells #[] 3)) (.cells #[.int .i64 D] 3))
                  have HP3 : Hid (((wA.alloc (.cells #[.int .i64 D] 3)).alloc (.cells #[] 3)).heap[wA.heap.size]? = some (.cells #[.int .i64 D] 3)) := Lib.hid ((heap_alloc_old (wA.alloc (.cells #[.int .i64 D] 3)) _ (by simp)).trans (heap_alloc_new wA _))
                  have HOR3 : Hid (((wA.alloc (.cells #[.int .i64 D] 3)).alloc (.cells #[] 3)).ownsRow wA.heap.size 3 1 (.slice (some ⟨wA.heap.size + 1, 0, none⟩) 0 0) 0 []) := Lib.hid (by
                    have h := World.ownsRow_made (wA.alloc (.cells #[.int .i64 D] 3)) #[] 0 (base := wA.heap.size) (e := 3) (size := 1) (by simp) (by decide) rfl
                    rw [show (wA.alloc (.cells #[.int .i64 D] 3)).heap.size = wA.heap.size + 1 by simp] at h
                    exact h)
                  have H1a := Lib.hid (intVs_cell (O.take k))
                  have H1b := Lib.hid (intVs_cell (O.drop k))
                  go_region_held3 (fun w' => Below wA.heap.size wA w' ∧ w'.cell? ⟨a, oa + t, none⟩ = some (.int .i64 D))
                    (exact HKS.out _ (by (first
                      | exact (Below.refl _ _).drew
                      | exact Below.refl _ _
                      | exact (Below.refl _ _).alloc (Nat.le_refl _) _
                      | exact ((Below.refl _ _).alloc (Nat.le_refl _) _).drew
                      | exact (((Below.refl _ _).alloc (Nat.le_refl _) _).alloc (by simp) _).drew
                      | exact ((Below.refl _ _).alloc (Nat.le_refl _) _).alloc (by simp) _
                      | (go_split_ands; refine Below.grown ?_ hgrow3 (Below.size (B := wA.heap.size) ?_) (fun y hy => (hown2'.lt y hy).1) <;> assumption)
                      | (go_split_ands; refine Below.grown ?_ hgrow2 (Below.size (B := wA.heap.size) ?_) (fun y hy => (hown1'.lt y hy).1) <;> assumption)
                      | (go_split_ands; refine Below.alloc ?_ (Below.size (B := wA.heap.size) ?_) _ <;> assumption)
                      | (go_split_ands; refine Below.drew ?_; refine Below.alloc ?_ (Below.size (B := wA.heap.size) ?_) _ <;> assumption)
                      | (go_split_ands; refine Below.grown ?_ hgrow1 (Below.size (B := wA.heap.size) ?_) (fun y hy => by simp [Value.ownBlock] at hy; omega) <;> assumption))))
                    (first
                      | (refine step_append_any _ (by rfl) _ _ _ (by rfl) wA.heap.size 3 i0 (.int .i64 0) 1 8 Try.underlying28 hi hz0 hz1 hz2 rfl (by omega) (.slice (some ⟨_, 0, none⟩) 0 0) 0 [] (by rfl) (by first | exact World.ownsRow_made wA #[] 0 (Nat.le_refl _) (by decide) rfl | exact (World.ownsRow_made wA #[] 0 (Nat.le_refl _) (by decide) rfl).alloc (.cells #[.int .i64 D] 3) | exact HOR3.out | fail) (some ⟨g, 0, none⟩) k ca (intVs (O.take k)) (by rfl) hlt1 (fun _ => ⟨_, rfl, HS1.out _ (by go_split_ands; assumption)⟩) H1a.out (by unfold maxLen; omega) (by omega) (by first | assumption | (simp; done) | (simp; omega) | fail) ?_; intro v1 wB hown1 hgrow1 hat1; have hzB : wA.heap.size ≤ wB.heap.size := by have h := hgrow1.size; simp at h; omega)
                      | (refine step_append_any _ (by rfl) _ _ _ (by rfl) wA.heap.size 3 i0 (.int .i64 0) 1 8 Try.underlying28 hi hz0 hz1 hz2 rfl (by omega) v2 _ _ (by rfl) hown2 (some ⟨g, k, none⟩) (j - k) (ca - k) (intVs (O.drop k)) (by rfl) hld (HS3.out _ (by go_split_ands; assumption)) H1b.out (by unfold maxLen; omega) (by omega) (by first | assumption | (simp; done) | (simp; omega) | fail) ?_; have hown2' := hown2; intro v3 wD hown3 hgrow3 hat3; have hzD : wA.heap.size ≤ wD.heap.size := by have h := hgrow3.size; omega)
                      | (refine step_append_any _ (by rfl) _ _ _ (by rfl) wA.heap.size 3 i0 (.int .i64 0) 1 8 Try.underlying28 hi hz0 hz1 hz2 rfl (by omega) v1 _ _ (by rfl) (by first | exact hown1 | exact hown1.alloc _ | fail) _ 1 1 [.int .i64 D] (by rfl) rfl (fun _ => ⟨_, rfl, World.news_of_block (cs := #[.int .i64 D]) (t := 3) (fr := (0, 0)) (by first
                          | exact (hgrow1.block (wA.heap.size + 1) (by simp) (by simp [Value.ownBlock])).trans HP2.out
                          | exact (hgrow1.block wA.heap.size (by simp <;> omega) (by simp [Value.ownBlock])).trans HP3.out
                          | exact heap_alloc_new wB _
                          | fail)⟩) (by simp [Value.oneCell']) (by unfold maxLen; omega) (by omega) (by first | assumption | (simp; done) | (simp; omega) | fail) ?_; have hown1' := hown1; intro v2 wC hown2 hgrow2 hat2; have hzC : wA.heap.size ≤ wC.heap.size := by have h := hgrow2.size; first | omega | (simp at h; omega))
                      | fail)
                  all_goals have hBD : Below wA.heap.size wA wD := by go_split_ands; assumption
                  all_goals have HTD : Hid (Below w.heap.size w wD) := Lib.hid (HTA.out.trans (hBD.mono (by omega)))
                  all_goals have HNN : Hid (v3.ownBlock ≠ none) := Lib.hid (own_threeV hat1 hat2 hat3)
                  all_goals have HO3 : Hid (wD.ownsRow w.heap.size 3 1 v3 (wkL (l.take (t + 1))).length (intVs (srt (wkL (l.take (t + 1)))))) := Lib.hid (by
                    have hl : j + 1 = 0 + k + 1 + (j - k) := by omega
                    have hx : intVs (srt (wkL (l.take (t + 1)))) = [] ++ intVs (O.take k) ++ [.int .i64 D] ++ intVs (O.drop k) := by rw [← HPK.out, intVs_append, intVs_append]; simp [intVs]
                    rw [HLN.out, hx, hl]
                    exact own_mono hown3 (by omega))
                  all_goals clear hown3 hown2 hown1 hgrow1 hgrow2 hgrow3 hat1 hat2 hat3
                  all_goals go_wp2
                  all_goals go_roundw
                  all_goals first
                    | (case rel => exact ⟨t + 1, by omega, by go_num, HO3.out, HNN, HTD⟩)
                    | skip
                  all_goals first
                    | (case measure => simp [intOf]; omega)
                    | skip
            · have HPK : Hid (O.take k ++ [D] ++ O.drop k = srt (wkL (l.take (t + 1)))) := Lib.hid (HPUT.out k hkj (fun h => absurd h hk0) hpk.out)
              have t2 : decide ((0 : Int) < (k : Int)) = false := by simp; omega
              go_wp2_with fail
              go_quiet (fail)
              go_wp2_with fail
              have hszA : w.heap.size ≤ ((wr.drewN m).drewN nq).heap.size := hbs
              have HTA : Hid (Below w.heap.size w ((wr.drewN m).drewN nq)) := Lib.hid (below_drewN (below_drewN hbel.out m) nq)
              have HOA : Hid (((wr.drewN m).drewN nq).ownsRow w.heap.size 3 1 (.slice (some ⟨g, 0, none⟩) j ca) j (intVs O)) := Lib.hid (own_drew (own_drew HOO.out ⟨m, rfl⟩) ⟨nq, rfl⟩)
              have HXA : Hid (∀ W, Below ((wr.drewN m).drewN nq).heap.size ((wr.drewN m).drewN nq) W → W.cell? ⟨a, oa + t, none⟩ = some (.int .i64 D)) := Lib.hid (fun W h => HXC.out W (HTA.out.trans (h.mono hszA)))
              have hgA : g < ((wr.drewN m).drewN nq).heap.size := hgw
              have hlaA : a < ((wr.drewN m).drewN nq).heap.size := by omega
              generalize ((wr.drewN m).drewN nq) = wA at *
              clear t2 hk0
              have hb1 : (0 : Int) ≤ (k : Int) := by omega
              have hb2 : (k : Int) ≤ (ca : Int) := by omega
              have hb3 : (k : Int) ≤ (j : Int) := by omega
              have hc1 : (0 : Int) ≤ (t : Int) := by omega
              have hc2 : (t : Int) < (l.length : Int) := by omega
              by_cases hkj2 : k = j
              · subst hkj2
                by_cases hca : ca = k
                · subst hca
                  go_wp2_with fail
                  have HKS : Hid (∀ W, Below wA.heap.size wA W → Below wA.heap.size wA W ∧ W.cell? ⟨a, oa + t, none⟩ = some (.int .i64 D)) := Lib.hid (fun W h => ⟨h, HXA.out W h⟩)
                  have HS1 : Hid (∀ W, Below wA.heap.size wA W → ∀ z u, (intVs (O.take ca))[z]? = some u → W.cell? ((⟨g, 0, none⟩ : Addr).add z) = some u) := Lib.hid (fun W h z u hu => (h.cell (by rw [gs_addr]; show g < _; omega)).trans (HOA.out.cells (g := g) rfl z u (by
                    have e : intVs O = intVs (O.take ca) ++ intVs (O.drop ca) := by rw [← intVs_append, List.take_append_drop]
                    rw [e, List.getElem?_append_left (List.getElem?_eq_some_iff.1 hu).1]; exact hu)))
                  have HS3 : Hid (∀ W, Below wA.heap.size wA W → 0 < 0 → ∃ ad : Addr, ((some ⟨g, 0, none⟩) : Option Addr) = some ad ∧ ∀ z u, (intVs (O.drop ca))[z]? = some u → W.cell? (ad.add z) = some u) := Lib.hid (fun W h hrn => ⟨⟨g, ca, none⟩, by omega, fun z u hu => by
                    have h1 := HOA.out.cells (g := g) rfl (ca + z) u (by
                      have e : intVs O = intVs (O.take ca) ++ intVs (O.drop ca) := by rw [← intVs_append, List.take_append_drop]
                      have hl : (intVs (O.take ca)).length = ca := by simp [HOL.out] <;> omega
                      rw [e, List.getElem?_append_right (by omega), hl, Nat.add_sub_cancel_left]; exact hu)
                    rw [gs_addr] at h1 ⊢
                    rw [h.cell (by show g < _; omega)]
                    simpa using h1⟩)
                  have hlt1 : (intVs (O.take ca)).length = ca * 1 := by simp [HOL.out] <;> omega
                  have hld : (intVs (O.drop ca)).length = 0 * 1 := by simp [HOL.out] <;> omega
                  have HP2 : Hid (((wA.alloc (.cells #[] 3)).alloc (.cells #[.int .i64 D] 3)).heap[wA.heap.size + 1]? = some (.cells #[.int .i64 D] 3)) := Lib.hid (by simpa using heap_alloc_new (wA.alloc (.cells #[] 3)) (.cells #[.int .i64 D] 3))
                  have HP3 : Hid (((wA.alloc (.cells #[.int .i64 D] 3)).alloc (.cells #[] 3)).heap[wA.heap.size]? = some (.cells #[.int .i64 D] 3)) := Lib.hid ((heap_alloc_old (wA.alloc (.cells #[.int .i64 D] 3)) _ (by simp)).trans (heap_alloc_new wA _))
                  have HOR3 : Hid (((wA.alloc (.cells #[.int .i64 D] 3)).alloc (.cells #[] 3)).ownsRow wA.heap.size 3 1 (.slice (some ⟨wA.heap.size + 1, 0, none⟩) 0 0) 0 []) := Lib.hid (by
                    have h := World.ownsRow_made (wA.alloc (.cells #[.int .i64 D] 3)) #[] 0 (base := wA.heap.size) (e := 3) (size := 1) (by simp) (by decide) rfl
                    rw [show (wA.alloc (.cells #[.int .i64 D] 3)).heap.size = wA.heap.size + 1 by simp] at h
                    exact h)
                  have H1a := Lib.hid (intVs_cell (O.take ca))
                  have H1b := Lib.hid (intVs_cell (O.drop ca))
                  go_region_held3 (fun w' => Below wA.heap.size wA w' ∧ w'.cell? ⟨a, oa + t, none⟩ = some (.int .i64 D))
                    (exact HKS.out _ (by (first
                      | exact (Below.refl _ _).drew
                      | exact Below.refl _ _
                      | exact (Below.refl _ _).alloc (Nat.le_refl _) _
                      | exact ((Below.refl _ _).alloc (Nat.le_refl _) _).drew
                      | exact (((Below.refl _ _).alloc (Nat.le_refl _) _).alloc (by simp) _).drew
                      | exact ((Below.refl _ _).alloc (Nat.le_refl _) _).alloc (by simp) _
                      | (go_split_ands; refine Below.grown ?_ hgrow3 (Below.size (B := wA.heap.size) ?_) (fun y hy => (hown2'.lt y hy).1) <;> assumption)
                      | (go_split_ands; refine Below.grown ?_ hgrow2 (Below.size (B := wA.heap.size) ?_) (fun y hy => (hown1'.lt y hy).1) <;> assumption)
                      | (go_split_ands; refine Below.alloc ?_ (Below.size (B := wA.heap.size) ?_) _ <;> assumption)
                      | (go_split_ands; refine Below.drew ?_; refine Below.alloc ?_ (Below.size (B := wA.heap.size) ?_) _ <;> assumption)
                      | (go_split_ands; refine Below.grown ?_ hgrow1 (Below.size (B := wA.heap.size) ?_) (fun y hy => by simp [Value.ownBlock] at hy; omega) <;> assumption))))
                    (first
                      | (refine step_append_any _ (by rfl) _ _ _ (by rfl) wA.heap.size 3 i0 (.int .i64 0) 1 8 Try.underlying28 hi hz0 hz1 hz2 rfl (by omega) (.slice (some ⟨_, 0, none⟩) 0 0) 0 [] (by rfl) (by first | exact World.ownsRow_made wA #[] 0 (Nat.le_refl _) (by decide) rfl | exact (World.ownsRow_made wA #[] 0 (Nat.le_refl _) (by decide) rfl).alloc (.cells #[.int .i64 D] 3) | exact HOR3.out | fail) (some ⟨g, 0, none⟩) ca ca (intVs (O.take ca)) (by rfl) hlt1 (fun _ => ⟨_, rfl, HS1.out _ (by go_split_ands; assumption)⟩) H1a.out (by unfold maxLen; omega) (by omega) (by first | assumption | (simp; done) | (simp; omega) | fail) ?_; intro v1 wB hown1 hgrow1 hat1; have hzB : wA.heap.size ≤ wB.heap.size := by have h := hgrow1.size; simp at h; omega)
                      | (refine step_append_any _ (by rfl) _ _ _ (by rfl) wA.heap.size 3 i0 (.int .i64 0) 1 8 Try.underlying28 hi hz0 hz1 hz2 rfl (by omega) v2 _ _ (by rfl) hown2 (some ⟨g, 0, none⟩) 0 0 (intVs (O.drop ca)) (by rfl) hld (HS3.out _ (by go_split_ands; assumption)) H1b.out (by unfold maxLen; omega) (by omega) (by first | assumption | (simp; done) | (simp; omega) | fail) ?_; have hown2' := hown2; intro v3 wD hown3 hgrow3 hat3; have hzD : wA.heap.size ≤ wD.heap.size := by have h := hgrow3.size; omega)
                      | (refine step_append_any _ (by rfl) _ _ _ (by rfl) wA.heap.size 3 i0 (.int .i64 0) 1 8 Try.underlying28 hi hz0 hz1 hz2 rfl (by omega) v1 _ _ (by rfl) (by first | exact hown1 | exact hown1.alloc _ | fail) _ 1 1 [.int .i64 D] (by rfl) rfl (fun _ => ⟨_, rfl, World.news_of_block (cs := #[.int .i64 D]) (t := 3) (fr := (0, 0)) (by first
                          | exact (hgrow1.block (wA.heap.size + 1) (by simp) (by simp [Value.ownBlock])).trans HP2.out
                          | exact (hgrow1.block wA.heap.size (by simp <;> omega) (by simp [Value.ownBlock])).trans HP3.out
                          | exact heap_alloc_new wB _
                          | fail)⟩) (by simp [Value.oneCell']) (by unfold maxLen; omega) (by omega) (by first | assumption | (simp; done) | (simp; omega) | fail) ?_; have hown1' := hown1; intro v2 wC hown2 hgrow2 hat2; have hzC : wA.heap.size ≤ wC.heap.size := by have h := hgrow2.size; first | omega | (simp at h; omega))
                      | fail)
                  all_goals have hBD : Below wA.heap.size wA wD := by go_split_ands; assumption
                  all_goals have HTD : Hid (Below w.heap.size w wD) := Lib.hid (HTA.out.trans (hBD.mono (by omega)))
                  all_goals have HNN : Hid (v3.ownBlock ≠ none) := Lib.hid (own_threeV hat1 hat2 hat3)
                  all_goals have HO3 : Hid (wD.ownsRow w.heap.size 3 1 v3 (wkL (l.take (t + 1))).length (intVs (srt (wkL (l.take (t + 1)))))) := Lib.hid (by
                    have hl : ca + 1 = 0 + ca + 1 + 0 := by omega
                    have hx : intVs (srt (wkL (l.take (t + 1)))) = [] ++ intVs (O.take ca) ++ [.int .i64 D] ++ intVs (O.drop ca) := by rw [← HPK.out, intVs_append, intVs_append]; simp [intVs]
                    rw [HLN.out, hx, hl]
                    exact own_mono hown3 (by omega))
                  all_goals clear hown3 hown2 hown1 hgrow1 hgrow2 hgrow3 hat1 hat2 hat3
                  all_goals go_wp2
                  all_goals go_roundw
                  all_goals first
                    | (case rel => exact ⟨t + 1, by omega, by go_num, HO3.out, HNN, HTD⟩)
                    | skip
                  all_goals first
                    | (case measure => simp [intOf]; omega)
                    | skip
                · skip
                  go_wp2_with fail
                  have HKS : Hid (∀ W, Below wA.heap.size wA W → Below wA.heap.size wA W ∧ W.cell? ⟨a, oa + t, none⟩ = some (.int .i64 D)) := Lib.hid (fun W h => ⟨h, HXA.out W h⟩)
                  have HS1 : Hid (∀ W, Below wA.heap.size wA W → ∀ z u, (intVs (O.take k))[z]? = some u → W.cell? ((⟨g, 0, none⟩ : Addr).add z) = some u) := Lib.hid (fun W h z u hu => (h.cell (by rw [gs_addr]; show g < _; omega)).trans (HOA.out.cells (g := g) rfl z u (by
                    have e : intVs O = intVs (O.take k) ++ intVs (O.drop k) := by rw [← intVs_append, List.take_append_drop]
                    rw [e, List.getElem?_append_left (List.getElem?_eq_some_iff.1 hu).1]; exact hu)))
                  have HS3 : Hid (∀ W, Below wA.heap.size wA W → 0 < 0 → ∃ ad : Addr, ((some ⟨g, k, none⟩) : Option Addr) = some ad ∧ ∀ z u, (intVs (O.drop k))[z]? = some u → W.cell? (ad.add z) = some u) := Lib.hid (fun W h hrn => ⟨⟨g, k, none⟩, rfl, fun z u hu => by
                    have h1 := HOA.out.cells (g := g) rfl (k + z) u (by
                      have e : intVs O = intVs (O.take k) ++ intVs (O.drop k) := by rw [← intVs_append, List.take_append_drop]
                      have hl : (intVs (O.take k)).length = k := by simp [HOL.out] <;> omega
                      rw [e, List.getElem?_append_right (by omega), hl, Nat.add_sub_cancel_left]; exact hu)
                    rw [gs_addr] at h1 ⊢
                    rw [h.cell (by show g < _; omega)]
                    simpa using h1⟩)
                  have hlt1 : (intVs (O.take k)).length = k * 1 := by simp [HOL.out] <;> omega
                  have hld : (intVs (O.drop k)).length = 0 * 1 := by simp [HOL.out] <;> omega
                  have HP2 : Hid (((wA.alloc (.cells #[] 3)).alloc (.cells #[.int .i64 D] 3)).heap[wA.heap.size + 1]? = some (.cells #[.int .i64 D] 3)) := Lib.hid (by simpa using heap_alloc_new (wA.alloc (.cells #[] 3)) (.cells #[.int .i64 D] 3))
                  have HP3 : Hid (((wA.alloc (.cells #[.int .i64 D] 3)).alloc (.cells #[] 3)).heap[wA.heap.size]? = some (.cells #[.int .i64 D] 3)) := Lib.hid ((heap_alloc_old (wA.alloc (.cells #[.int .i64 D] 3)) _ (by simp)).trans (heap_alloc_new wA _))
                  have HOR3 : Hid (((wA.alloc (.cells #[.int .i64 D] 3)).alloc (.cells #[] 3)).ownsRow wA.heap.size 3 1 (.slice (some ⟨wA.heap.size + 1, 0, none⟩) 0 0) 0 []) := Lib.hid (by
                    have h := World.ownsRow_made (wA.alloc (.cells #[.int .i64 D] 3)) #[] 0 (base := wA.heap.size) (e := 3) (size := 1) (by simp) (by decide) rfl
                    rw [show (wA.alloc (.cells #[.int .i64 D] 3)).heap.size = wA.heap.size + 1 by simp] at h
                    exact h)
                  have H1a := Lib.hid (intVs_cell (O.take k))
                  have H1b := Lib.hid (intVs_cell (O.drop k))
                  go_region_held3 (fun w' => Below wA.heap.size wA w' ∧ w'.cell? ⟨a, oa + t, none⟩ = some (.int .i64 D))
                    (exact HKS.out _ (by (first
                      | exact (Below.refl _ _).drew
                      | exact Below.refl _ _
                      | exact (Below.refl _ _).alloc (Nat.le_refl _) _
                      | exact ((Below.refl _ _).alloc (Nat.le_refl _) _).drew
                      | exact (((Below.refl _ _).alloc (Nat.le_refl _) _).alloc (by simp) _).drew
                      | exact ((Below.refl _ _).alloc (Nat.le_refl _) _).alloc (by simp) _
                      | (go_split_ands; refine Below.grown ?_ hgrow3 (Below.size (B := wA.heap.size) ?_) (fun y hy => (hown2'.lt y hy).1) <;> assumption)
                      | (go_split_ands; refine Below.grown ?_ hgrow2 (Below.size (B := wA.heap.size) ?_) (fun y hy => (hown1'.lt y hy).1) <;> assumption)
                      | (go_split_ands; refine Below.alloc ?_ (Below.size (B := wA.heap.size) ?_) _ <;> assumption)
                      | (go_split_ands; refine Below.drew ?_; refine Below.alloc ?_ (Below.size (B := wA.heap.size) ?_) _ <;> assumption)
                      | (go_split_ands; refine Below.grown ?_ hgrow1 (Below.size (B := wA.heap.size) ?_) (fun y hy => by simp [Value.ownBlock] at hy; omega) <;> assumption))))
                    (first
                      | (refine step_append_any _ (by rfl) _ _ _ (by rfl) wA.heap.size 3 i0 (.int .i64 0) 1 8 Try.underlying28 hi hz0 hz1 hz2 rfl (by omega) (.slice (some ⟨_, 0, none⟩) 0 0) 0 [] (by rfl) (by first | exact World.ownsRow_made wA #[] 0 (Nat.le_refl _) (by decide) rfl | exact (World.ownsRow_made wA #[] 0 (Nat.le_refl _) (by decide) rfl).alloc (.cells #[.int .i64 D] 3) | exact HOR3.out | fail) (some ⟨g, 0, none⟩) k ca (intVs (O.take k)) (by rfl) hlt1 (fun _ => ⟨_, rfl, HS1.out _ (by go_split_ands; assumption)⟩) H1a.out (by unfold maxLen; omega) (by omega) (by first | assumption | (simp; done) | (simp; omega) | fail) ?_; intro v1 wB hown1 hgrow1 hat1; have hzB : wA.heap.size ≤ wB.heap.size := by have h := hgrow1.size; simp at h; omega)
                      | (refine step_append_any _ (by rfl) _ _ _ (by rfl) wA.heap.size 3 i0 (.int .i64 0) 1 8 Try.underlying28 hi hz0 hz1 hz2 rfl (by omega) v2 _ _ (by rfl) hown2 (some ⟨g, k, none⟩) 0 (ca - k) (intVs (O.drop k)) (by rfl) hld (HS3.out _ (by go_split_ands; assumption)) H1b.out (by unfold maxLen; omega) (by omega) (by first | assumption | (simp; done) | (simp; omega) | fail) ?_; have hown2' := hown2; intro v3 wD hown3 hgrow3 hat3; have hzD : wA.heap.size ≤ wD.heap.size := by have h := hgrow3.size; omega)
                      | (refine step_append_any _ (by rfl) _ _ _ (by rfl) wA.heap.size 3 i0 (.int .i64 0) 1 8 Try.underlying28 hi hz0 hz1 hz2 rfl (by omega) v1 _ _ (by rfl) (by first | exact hown1 | exact hown1.alloc _ | fail) _ 1 1 [.int .i64 D] (by rfl) rfl (fun _ => ⟨_, rfl, World.news_of_block (cs := #[.int .i64 D]) (t := 3) (fr := (0, 0)) (by first
                          | exact (hgrow1.block (wA.heap.size + 1) (by simp) (by simp [Value.ownBlock])).trans HP2.out
                          | exact (hgrow1.block wA.heap.size (by simp <;> omega) (by simp [Value.ownBlock])).trans HP3.out
                          | exact heap_alloc_new wB _
                          | fail)⟩) (by simp [Value.oneCell']) (by unfold maxLen; omega) (by omega) (by first | assumption | (simp; done) | (simp; omega) | fail) ?_; have hown1' := hown1; intro v2 wC hown2 hgrow2 hat2; have hzC : wA.heap.size ≤ wC.heap.size := by have h := hgrow2.size; first | omega | (simp at h; omega))
                      | fail)
                  all_goals have hBD : Below wA.heap.size wA wD := by go_split_ands; assumption
                  all_goals have HTD : Hid (Below w.heap.size w wD) := Lib.hid (HTA.out.trans (hBD.mono (by omega)))
                  all_goals have HNN : Hid (v3.ownBlock ≠ none) := Lib.hid (own_threeV hat1 hat2 hat3)
                  all_goals have HO3 : Hid (wD.ownsRow w.heap.size 3 1 v3 (wkL (l.take (t + 1))).length (intVs (srt (wkL (l.take (t + 1)))))) := Lib.hid (by
                    have hl : k + 1 = 0 + k + 1 + 0 := by omega
                    have hx : intVs (srt (wkL (l.take (t + 1)))) = [] ++ intVs (O.take k) ++ [.int .i64 D] ++ intVs (O.drop k) := by rw [← HPK.out, intVs_append, intVs_append]; simp [intVs]
                    rw [HLN.out, hx, hl]
                    exact own_mono hown3 (by omega))
                  all_goals clear hown3 hown2 hown1 hgrow1 hgrow2 hgrow3 hat1 hat2 hat3
                  all_goals go_wp2
                  all_goals go_roundw
                  all_goals first
                    | (case rel => exact ⟨t + 1, by omega, by go_num, HO3.out, HNN, HTD⟩)
                    | skip
                  all_goals first
                    | (case measure => simp [intOf]; omega)
                    | skip
              · have hca : ¬ ca = k := by omega
                have t4 : decide ((0 : Int) < ((j - k : Nat) : Int)) = true := by simp; omega
                have t6 : decide (k < j) = true := by simp; omega
                have t7 : decide (0 < j - k) = true := by simp; omega
                have t8 : decide ((k : Int) < (j : Int)) = true := by simp; omega
                have t9 : 0 < j - k := by omega
                go_wp2_with fail
                have HKS : Hid (∀ W, Below wA.heap.size wA W → Below wA.heap.size wA W ∧ W.cell? ⟨a, oa + t, none⟩ = some (.int .i64 D)) := Lib.hid (fun W h => ⟨h, HXA.out W h⟩)
                have HS1 : Hid (∀ W, Below wA.heap.size wA W → ∀ z u, (intVs (O.take k))[z]? = some u → W.cell? ((⟨g, 0, none⟩ : Addr).add z) = some u) := Lib.hid (fun W h z u hu => (h.cell (by rw [gs_addr]; show g < _; omega)).trans (HOA.out.cells (g := g) rfl z u (by
                  have e : intVs O = intVs (O.take k) ++ intVs (O.drop k) := by rw [← intVs_append, List.take_append_drop]
                  rw [e, List.getElem?_append_left (List.getElem?_eq_some_iff.1 hu).1]; exact hu)))
                have HS3 : Hid (∀ W, Below wA.heap.size wA W → 0 < (j - k) → ∃ ad : Addr, ((some ⟨g, k, none⟩) : Option Addr) = some ad ∧ ∀ z u, (intVs (O.drop k))[z]? = some u → W.cell? (ad.add z) = some u) := Lib.hid (fun W h hrn => ⟨⟨g, k, none⟩, rfl, fun z u hu => by
                  have h1 := HOA.out.cells (g := g) rfl (k + z) u (by
                    have e : intVs O = intVs (O.take k) ++ intVs (O.drop k) := by rw [← intVs_append, List.take_append_drop]
                    have hl : (intVs (O.take k)).length = k := by simp [HOL.out] <;> omega
                    rw [e, List.getElem?_append_right (by omega), hl, Nat.add_sub_cancel_left]; exact hu)
                  rw [gs_addr] at h1 ⊢
                  rw [h.cell (by show g < _; omega)]
                  simpa using h1⟩)
                have hlt1 : (intVs (O.take k)).length = k * 1 := by simp [HOL.out] <;> omega
                have hld : (intVs (O.drop k)).length = (j - k) * 1 := by simp [HOL.out] <;> omega
                have HP2 : Hid (((wA.alloc (.cells #[] 3)).alloc (.cells #[.int .i64 D] 3)).heap[wA.heap.size + 1]? = some (.cells #[.int .i64 D] 3)) := Lib.hid (by simpa using heap_alloc_new (wA.alloc (.cells #[] 3)) (.cells #[.int .i64 D] 3))
                have HP3 : Hid (((wA.alloc (.cells #[.int .i64 D] 3)).alloc (.cells #[] 3)).heap[wA.heap.size]? = some (.cells #[.int .i64 D] 3)) := Lib.hid ((heap_alloc_old (wA.alloc (.cells #[.int .i64 D] 3)) _ (by simp)).trans (heap_alloc_new wA _))
                have HOR3 : Hid (((wA.alloc (.cells #[.int .i64 D] 3)).alloc (.cells #[] 3)).ownsRow wA.heap.size 3 1 (.slice (some ⟨wA.heap.size + 1, 0, none⟩) 0 0) 0 []) := Lib.hid (by
                  have h := World.ownsRow_made (wA.alloc (.cells #[.int .i64 D] 3)) #[] 0 (base := wA.heap.size) (e := 3) (size := 1) (by simp) (by decide) rfl
                  rw [show (wA.alloc (.cells #[.int .i64 D] 3)).heap.size = wA.heap.size + 1 by simp] at h
                  exact h)
                have H1a := Lib.hid (intVs_cell (O.take k))
                have H1b := Lib.hid (intVs_cell (O.drop k))
                go_region_held3 (fun w' => Below wA.heap.size wA w' ∧ w'.cell? ⟨a, oa + t, none⟩ = some (.int .i64 D))
                  (exact HKS.out _ (by (first
                    | exact (Below.refl _ _).drew
                    | exact Below.refl _ _
                    | exact (Below.refl _ _).alloc (Nat.le_refl _) _
                    | exact ((Below.refl _ _).alloc (Nat.le_refl _) _).drew
                    | exact (((Below.refl _ _).alloc (Nat.le_refl _) _).alloc (by simp) _).drew
                    | exact ((Below.refl _ _).alloc (Nat.le_refl _) _).alloc (by simp) _
                    | (go_split_ands; refine Below.grown ?_ hgrow3 (Below.size (B := wA.heap.size) ?_) (fun y hy => (hown2'.lt y hy).1) <;> assumption)
                    | (go_split_ands; refine Below.grown ?_ hgrow2 (Below.size (B := wA.heap.size) ?_) (fun y hy => (hown1'.lt y hy).1) <;> assumption)
                    | (go_split_ands; refine Below.alloc ?_ (Below.size (B := wA.heap.size) ?_) _ <;> assumption)
                    | (go_split_ands; refine Below.drew ?_; refine Below.alloc ?_ (Below.size (B := wA.heap.size) ?_) _ <;> assumption)
                    | (go_split_ands; refine Below.grown ?_ hgrow1 (Below.size (B := wA.heap.size) ?_) (fun y hy => by simp [Value.ownBlock] at hy; omega) <;> assumption))))
                  (first
                    | (refine step_append_any _ (by rfl) _ _ _ (by rfl) wA.heap.size 3 i0 (.int .i64 0) 1 8 Try.underlying28 hi hz0 hz1 hz2 rfl (by omega) (.slice (some ⟨_, 0, none⟩) 0 0) 0 [] (by rfl) (by first | exact World.ownsRow_made wA #[] 0 (Nat.le_refl _) (by decide) rfl | exact (World.ownsRow_made wA #[] 0 (Nat.le_refl _) (by decide) rfl).alloc (.cells #[.int .i64 D] 3) | exact HOR3.out | fail) (some ⟨g, 0, none⟩) k ca (intVs (O.take k)) (by rfl) hlt1 (fun _ => ⟨_, rfl, HS1.out _ (by go_split_ands; assumption)⟩) H1a.out (by unfold maxLen; omega) (by omega) (by first | assumption | (simp; done) | (simp; omega) | fail) ?_; intro v1 wB hown1 hgrow1 hat1; have hzB : wA.heap.size ≤ wB.heap.size := by have h := hgrow1.size; simp at h; omega)
                    | (refine step_append_any _ (by rfl) _ _ _ (by rfl) wA.heap.size 3 i0 (.int .i64 0) 1 8 Try.underlying28 hi hz0 hz1 hz2 rfl (by omega) v2 _ _ (by rfl) hown2 (some ⟨g, k, none⟩) (j - k) (ca - k) (intVs (O.drop k)) (by rfl) hld (HS3.out _ (by go_split_ands; assumption)) H1b.out (by unfold maxLen; omega) (by omega) (by first | assumption | (simp; done) | (simp; omega) | fail) ?_; have hown2' := hown2; intro v3 wD hown3 hgrow3 hat3; have hzD : wA.heap.size ≤ wD.heap.size := by have h := hgrow3.size; omega)
                    | (refine step_append_any _ (by rfl) _ _ _ (by rfl) wA.heap.size 3 i0 (.int .i64 0) 1 8 Try.underlying28 hi hz0 hz1 hz2 rfl (by omega) v1 _ _ (by rfl) (by first | exact hown1 | exact hown1.alloc _ | fail) _ 1 1 [.int .i64 D] (by rfl) rfl (fun _ => ⟨_, rfl, World.news_of_block (cs := #[.int .i64 D]) (t := 3) (fr := (0, 0)) (by first
                        | exact (hgrow1.block (wA.heap.size + 1) (by simp) (by simp [Value.ownBlock])).trans HP2.out
                        | exact (hgrow1.block wA.heap.size (by simp <;> omega) (by simp [Value.ownBlock])).trans HP3.out
                        | exact heap_alloc_new wB _
                        | fail)⟩) (by simp [Value.oneCell']) (by unfold maxLen; omega) (by omega) (by first | assumption | (simp; done) | (simp; omega) | fail) ?_; have hown1' := hown1; intro v2 wC hown2 hgrow2 hat2; have hzC : wA.heap.size ≤ wC.heap.size := by have h := hgrow2.size; first | omega | (simp at h; omega))
                    | fail)
                all_goals have hBD : Below wA.heap.size wA wD := by go_split_ands; assumption
                all_goals have HTD : Hid (Below w.heap.size w wD) := Lib.hid (HTA.out.trans (hBD.mono (by omega)))
                all_goals have HNN : Hid (v3.ownBlock ≠ none) := Lib.hid (own_threeV hat1 hat2 hat3)
                all_goals have HO3 : Hid (wD.ownsRow w.heap.size 3 1 v3 (wkL (l.take (t + 1))).length (intVs (srt (wkL (l.take (t + 1)))))) := Lib.hid (by
                  have hl : j + 1 = 0 + k + 1 + (j - k) := by omega
                  have hx : intVs (srt (wkL (l.take (t + 1)))) = [] ++ intVs (O.take k) ++ [.int .i64 D] ++ intVs (O.drop k) := by rw [← HPK.out, intVs_append, intVs_append]; simp [intVs]
                  rw [HLN.out, hx, hl]
                  exact own_mono hown3 (by omega))
                all_goals clear hown3 hown2 hown1 hgrow1 hgrow2 hgrow3 hat1 hat2 hat3
                all_goals go_wp2
                all_goals go_roundw
                all_goals first
                  | (case rel => exact ⟨t + 1, by omega, by go_num, HO3.out, HNN, HTD⟩)
                  | skip
                all_goals first
                  | (case measure => simp [intOf]; omega)
                  | skip
    · obtain rfl : t = l.length := by omega
      rw [List.take_length] at hown
      have hlen := srt_len (wkL l)
      have hwl := wk_le l
      have HF := Lib.hid (vt_few (l := l))
      have HM := Lib.hid (vt_many (l := l))
      have hown2 := hown
      rw [← hlen] at hown2
      obtain ⟨a4, b4, f4, c4, hv4, h4, hat4⟩ := (Rd.of_own hown2).formR
      rw [hlen] at hv4 h4
      have H4 := Lib.hid h4
      have HT4 := Lib.hid hat4
      clear hown hown2 h4 hat4 hlen hnn
      subst hv4
      generalize (wkL l) = W at *
      by_cases h2 : 2 * W.length < l.length
      · have t2 : decide (2 * (W.length : Int) < (l.length : Int)) = true := by simp; omega
        have HV := Lib.hid (HF.out h2)
        have q1 : IntKind.i64.wrap (2 * (W.length : Int)) = 2 * (W.length : Int) := IntWalk.i64_in _ (by omega)
        clear h2
        go_wp2
        go_ret
        exact ⟨ret_i12 HV.out.symm, hbel.out⟩
      · have t2 : decide (2 * (W.length : Int) < (l.length : Int)) = false := by simp; omega
        have HV := Lib.hid (HM.out h2)
        have q1 : IntKind.i64.wrap (2 * (W.length : Int)) = 2 * (W.length : Int) := IntWalk.i64_in _ (by omega)
        have hW0 : 0 < W.length := by omega
        have hW5 : W.length ≤ 5 := by omega
        have t3 : ((W.length : Int) == 0) = false := by simp; intro e; rw [e] at hW0; simp at hW0
        obtain ⟨rfl, hb4, _⟩ := H4.out hW0
        have c0 := HT4.out (W.length / 2) (by rw [srt_len]; omega)
        have hq2 : W.length / 2 < W.length := by omega
        generalize (srt W).getD (W.length / 2) 0 = X at *
        clear h2 H4 HT4
        go_wp2
        go_ret
        exact ⟨ret_i12 HV.out.symm, hbel.out⟩
end Go.Proofs.Ytoamhbobcpljpaa
