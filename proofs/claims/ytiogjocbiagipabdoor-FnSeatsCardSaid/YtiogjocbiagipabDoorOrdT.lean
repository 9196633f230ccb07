/- spec.l5Order by trips. Condition: at most twelve cabins. -/
import Derived.Test.YtiogjocbiagipabDoorOrdMath
import Derived.Test.YtiogjocbiagipabDoorCabInC
import Derived.Test.YtiogjocbiagipabDoorAppAny
import Derived.Deep.RegionHeld3
import Derived.StillTailTactics
namespace Go.Proofs.YtiogjocbiagipabDoor
open Go.RowKit
set_option linter.unusedVariables false
theorem own_three {h0 h1 h2 : Nat} {g : Nat} {v1 v2 v3 : Value} {c0 : Nat} (a1 : v1.ownBlock = (Value.slice (some ⟨g, 0, none⟩) 0 c0).ownBlock ∨ v1.ownBlock = some h0) (a2 : v2.ownBlock = v1.ownBlock ∨ v2.ownBlock = some h1) (a3 : v3.ownBlock = v2.ownBlock ∨ v3.ownBlock = some h2) : v3.ownBlock ≠ none := by
  have e1 : v1.ownBlock ≠ none := by rcases a1 with h | h <;> rw [h] <;> simp [Value.ownBlock]
  have e2 : v2.ownBlock ≠ none := by rcases a2 with h | h <;> rw [h]; exact e1; simp
  rcases a3 with h | h <;> rw [h]
  · exact e2
  · simp
set_option maxRecDepth 100000 in
set_option maxHeartbeats 4000000 in
theorem l5Order_t (v : Value) (l : List Cab) (w : World) (hr : Rs w v l.length (cabs l)) (hn : l.length ≤ 12) :
    Calls Tryd.prog 79 #[v, .bool true] w fun e w' => ∃ g, e = .returned g ∧ w'.ownsRow w.heap.size 34 5 g l.length (cabs (ordA true l)) ∧ Below w.heap.size w w' := by
  obtain ⟨i0, hi, hz0, hz1, hz2⟩ := info_parts Tryd.infoCab
  obtain ⟨ao, a, oa, cc, rfl, hao, hat⟩ := hr.form_Cab
  have HA := Lib.hid hao
  have HL := Lib.hid hat
  clear hr hao hat
  go_enter Tryd.func79, Tryd.ntmps79
  go_wp2
  go_loopw [5, 6] (fun o i wr => ∃ j : Nat, j ≤ l.length ∧ i = .int .i64 j ∧ wr.ownsRow w.heap.size 34 5 o j (cabs (ordK true l j)) ∧ Hid (o.ownBlock ≠ none) ∧ Hid (Below w.heap.size w wr)) (fun _ i _ => l.length - (intOf i).toNat)
  case atStart => exact ⟨0, by omega, rfl, World.ownsRow_made w #[] 0 (Nat.le_refl _) (by decide) rfl, Lib.hid (by simp [Value.ownBlock]), Lib.hid ((Below.refl _ _).alloc (Nat.le_refl _) _)⟩
  case round =>
    obtain ⟨j, hj, rfl, hown, hnn, hbel⟩ := hrel
    obtain ⟨wo, hwo⟩ : ∃ wo : World, wr = wo := ⟨_, rfl⟩
    subst hwo
    by_cases hlt : j < l.length
    · rcases own_form hown with ⟨h0, rfl⟩ | ⟨g, ca, rfl, hBg, hgw, hnc, hcm⟩
      · exact absurd rfl hnn.out
      · skip
        obtain ⟨rfl, hla, hlm⟩ := HA.out (by omega)
        have hbs := hbel.out.size
        have HOL : Hid ((ordK true l j).length = j) := Lib.hid (ordK_len true l j)
        have HOC : Hid (CabAt wr g 0 (ordK true l j)) := Lib.hid (own_Cab (by rw [ordK_len]; exact hown))
        have HOO := Lib.hid hown
        have HXC : Hid (∀ W, Below w.heap.size w W → W.cell? ⟨a, oa + j * 5, none⟩ = some (.int .i64 (gth l j).i) ∧ W.cell? ⟨a, oa + j * 5 + 1, none⟩ = some (.int .i64 (gth l j).s) ∧ W.cell? ⟨a, oa + j * 5 + 2, none⟩ = some (.int .i64 (gth l j).w) ∧ W.cell? ⟨a, oa + j * 5 + 3, none⟩ = some (.int .i64 (gth l j).g) ∧ W.cell? ⟨a, oa + j * 5 + 4, none⟩ = some (.int .i64 (gth l j).p)) := Lib.hid (fun W h => (HL.out.below h hla) j hlt)
        have HNX : Hid (∀ k, pkC true (ordK true l j) (gth l j) j = k → ordK true l (j + 1) = (ordK true l j).take k ++ [gth l j] ++ (ordK true l j).drop k) := Lib.hid (fun k h => by rw [ordK, insC, ordK_len, h])
        have HDN := Lib.hid (fun k (h : keyC true (gth (ordK true l j) k) < keyC true (gth l j)) => pkC_down h)
        have HST := Lib.hid (fun k (h : keyC true (gth l j) ≤ keyC true (gth (ordK true l j) k)) => pkC_stop h)
        clear hown
        generalize gth l j = D at *
        generalize ordK true l j = O at *
        go_wp2
        go_loopw [7] (fun kk w2 => ∃ k m : Nat, k ≤ j ∧ kk = .int .i64 k ∧ w2 = wr.drewN m ∧ Hid (pkC true O D k = pkC true O D j)) (fun kk _ => (intOf kk).toNat)
        case atStart => exact ⟨j, 0, Nat.le_refl _, rfl, rfl, Lib.hid rfl⟩
        case round =>
          obtain ⟨k, m, hkj, rfl, rfl, hpk⟩ := hrel
          by_cases hk0 : 0 < k
          · obtain ⟨p1, p2, p3⟩ := pred_in k hk0 (by omega)
            have hgt : (0 : Int) < (k : Int) := by omega
            have hq : wr.cell? ⟨g, (k - 1) * 5 + 4, none⟩ = some (.int .i64 (gth O (k - 1)).p) := by
              have h := HOC.out (k - 1) (by rw [HOL.out]; omega)
              simp only [Nat.zero_add] at h
              exact h.2.2.2.2
            have hx : wr.cell? ⟨a, oa + j * 5 + 4, none⟩ = some (.int .i64 D.p) := by
              have h := HXC.out _ hbel.out
              exact h.2.2.2.2
            have hkl : k - 1 < j := by omega
            have hlw : a < wr.heap.size := by omega
            have i1 : (0 : Int) ≤ (j : Int) := by omega
            have i2 : (j : Int) < (l.length : Int) := by omega
            have i3 : (k : Int) - 1 < (j : Int) := by omega
            by_cases hc : (gth O (k - 1)).p < D.p
            · have HPK2 : Hid (pkC true O D (k - 1) = pkC true O D j) := Lib.hid (by
                have h := HDN.out (k - 1) hc
                rw [Nat.sub_add_cancel (by omega)] at h
                rw [← hpk.out, h])
              have t1 : decide ((gth O (k - 1)).p < D.p) = true := by simpa using hc
              clear hc
              generalize (gth O (k - 1)).p = E at *
              go_wp2_with fail
              go_quiet (fail)
              go_wp2
              go_roundw
              case rel => exact ⟨k - 1, m + nq, by omega, by (congr 1; omega), rfl, HPK2⟩
              case measure => simp [intOf]; omega
            · have HPK : Hid (pkC true O D j = k) := Lib.hid (by
                have h := HST.out (k - 1) (by show D.p ≤ (gth O (k - 1)).p; omega)
                rw [Nat.sub_add_cancel (by omega)] at h
                rw [← hpk.out, h])
              have t1 : decide ((gth O (k - 1)).p < D.p) = false := by simpa using hc
              clear hc
              generalize (gth O (k - 1)).p = E at *
              go_wp2_with fail
              go_quiet (fail)
              go_wp2_with fail
              have hszA : w.heap.size ≤ ((wr.drewN m).drewN nq).heap.size := hbs
              have HTA : Hid (Below w.heap.size w ((wr.drewN m).drewN nq)) := Lib.hid (below_drewN (below_drewN hbel.out m) nq)
              have HOA : Hid (((wr.drewN m).drewN nq).ownsRow w.heap.size 34 5 (.slice (some ⟨g, 0, none⟩) j ca) j (cabs O)) := Lib.hid (own_drew (own_drew HOO.out ⟨m, rfl⟩) ⟨nq, rfl⟩)
              have HXA : Hid (∀ W, Below ((wr.drewN m).drewN nq).heap.size ((wr.drewN m).drewN nq) W → W.cell? ⟨a, oa + j * 5, none⟩ = some (.int .i64 D.i) ∧ W.cell? ⟨a, oa + j * 5 + 1, none⟩ = some (.int .i64 D.s) ∧ W.cell? ⟨a, oa + j * 5 + 2, none⟩ = some (.int .i64 D.w) ∧ W.cell? ⟨a, oa + j * 5 + 3, none⟩ = some (.int .i64 D.g) ∧ W.cell? ⟨a, oa + j * 5 + 4, none⟩ = some (.int .i64 D.p)) := Lib.hid (fun W h => HXC.out W (HTA.out.trans (h.mono hszA)))
              have hgA : g < ((wr.drewN m).drewN nq).heap.size := hgw
              have hlaA : a < ((wr.drewN m).drewN nq).heap.size := by omega
              generalize ((wr.drewN m).drewN nq) = wA at *
              clear hq hx t1 p1 p2 p3 hgt hk0 hkl hlw i3
              have hb1 : (0 : Int) ≤ (k : Int) := by omega
              have hb2 : (k : Int) ≤ (ca : Int) := by omega
              have hb3 : (k : Int) ≤ (j : Int) := by omega
              by_cases hkj2 : k = j
              · subst hkj2
                by_cases hca : ca = k
                · subst hca
                  go_wp2_with fail
                  have HKS : Hid (∀ W, Below wA.heap.size wA W → Below wA.heap.size wA W ∧ W.cell? ⟨a, oa + ca * 5, none⟩ = some (.int .i64 D.i) ∧ W.cell? ⟨a, oa + ca * 5 + 1, none⟩ = some (.int .i64 D.s) ∧ W.cell? ⟨a, oa + ca * 5 + 2, none⟩ = some (.int .i64 D.w) ∧ W.cell? ⟨a, oa + ca * 5 + 3, none⟩ = some (.int .i64 D.g) ∧ W.cell? ⟨a, oa + ca * 5 + 4, none⟩ = some (.int .i64 D.p)) := Lib.hid (fun W h => ⟨h, HXA.out W h⟩)
                  have HS1 : Hid (∀ W, Below wA.heap.size wA W → ∀ z u, (cabs (O.take ca))[z]? = some u → W.cell? ((⟨g, 0, none⟩ : Addr).add z) = some u) := Lib.hid (fun W h z u hu => (h.cell (by rw [gs_addr]; show g < _; omega)).trans (HOA.out.cells (g := g) rfl z u (by
                    have e : cabs O = cabs (O.take ca) ++ cabs (O.drop ca) := by rw [← cabs_append, List.take_append_drop]
                    rw [e, List.getElem?_append_left (List.getElem?_eq_some_iff.1 hu).1]; exact hu)))
                  have HS3 : Hid (∀ W, Below wA.heap.size wA W → 0 < 0 → ∃ ad : Addr, ((some ⟨g, 0, none⟩) : Option Addr) = some ad ∧ ∀ z u, (cabs (O.drop ca))[z]? = some u → W.cell? (ad.add z) = some u) := Lib.hid (fun W h hrn => ⟨⟨g, ca * 5, none⟩, by omega, fun z u hu => by
                    have h1 := HOA.out.cells (g := g) rfl (ca * 5 + z) u (by
                      have e : cabs O = cabs (O.take ca) ++ cabs (O.drop ca) := by rw [← cabs_append, List.take_append_drop]
                      have hl : (cabs (O.take ca)).length = ca * 5 := cabs_take_len O _ (by rw [HOL.out]; omega)
                      rw [e, List.getElem?_append_right (by omega), hl, Nat.add_sub_cancel_left]; exact hu)
                    rw [gs_addr] at h1 ⊢
                    rw [h.cell (by show g < _; omega)]
                    simpa using h1⟩)
                  have hlt1 : (cabs (O.take ca)).length = ca * 5 := cabs_take_len O ca (by rw [HOL.out]; omega)
                  have hld : (cabs (O.drop ca)).length = 0 * 5 := by rw [cabs_len, List.length_drop, HOL.out] <;> first | done | (congr 1 <;> omega)
                  have HP2 : Hid (((wA.alloc (.cells #[] 34)).alloc (.cells #[.int .i64 D.i, .int .i64 D.s, .int .i64 D.w, .int .i64 D.g, .int .i64 D.p] 34)).heap[wA.heap.size + 1]? = some (.cells #[.int .i64 D.i, .int .i64 D.s, .int .i64 D.w, .int .i64 D.g, .int .i64 D.p] 34)) := Lib.hid (by simpa using heap_alloc_new (wA.alloc (.cells #[] 34)) (.cells #[.int .i64 D.i, .int .i64 D.s, .int .i64 D.w, .int .i64 D.g, .int .i64 D.p] 34))
                  have HP3 : Hid (((wA.alloc (.cells #[.int .i64 D.i, .int .i64 D.s, .int .i64 D.w, .int .i64 D.g, .int .i64 D.p] 34)).alloc (.cells #[] 34)).heap[wA.heap.size]? = some (.cells #[.int .i64 D.i, .int .i64 D.s, .int .i64 D.w, .int .i64 D.g, .int .i64 D.p] 34)) := Lib.hid ((heap_alloc_old (wA.alloc (.cells #[.int .i64 D.i, .int .i64 D.s, .int .i64 D.w, .int .i64 D.g, .int .i64 D.p] 34)) _ (by simp)).trans (heap_alloc_new wA _))
                  have HOR3 : Hid (((wA.alloc (.cells #[.int .i64 D.i, .int .i64 D.s, .int .i64 D.w, .int .i64 D.g, .int .i64 D.p] 34)).alloc (.cells #[] 34)).ownsRow wA.heap.size 34 5 (.slice (some ⟨wA.heap.size + 1, 0, none⟩) 0 0) 0 []) := Lib.hid (by
                    have h := World.ownsRow_made (wA.alloc (.cells #[.int .i64 D.i, .int .i64 D.s, .int .i64 D.w, .int .i64 D.g, .int .i64 D.p] 34)) #[] 0 (base := wA.heap.size) (e := 34) (size := 5) (by simp) (by decide) rfl
                    rw [show (wA.alloc (.cells #[.int .i64 D.i, .int .i64 D.s, .int .i64 D.w, .int .i64 D.g, .int .i64 D.p] 34)).heap.size = wA.heap.size + 1 by simp] at h
                    exact h)
                  have H1a := Lib.hid (cabs_one_cell (O.take ca))
                  have H1b := Lib.hid (cabs_one_cell (O.drop ca))
                  go_region_held3 (fun w' => Below wA.heap.size wA w' ∧ w'.cell? ⟨a, oa + ca * 5, none⟩ = some (.int .i64 D.i) ∧ w'.cell? ⟨a, oa + ca * 5 + 1, none⟩ = some (.int .i64 D.s) ∧ w'.cell? ⟨a, oa + ca * 5 + 2, none⟩ = some (.int .i64 D.w) ∧ w'.cell? ⟨a, oa + ca * 5 + 3, none⟩ = some (.int .i64 D.g) ∧ w'.cell? ⟨a, oa + ca * 5 + 4, none⟩ = some (.int .i64 D.p))
                    (exact HKS.out _ (by (first
                      | exact (Below.refl _ _).drew
                      | exact Below.refl _ _
                      | exact (Below.refl _ _).alloc (Nat.le_refl _) _
                      | exact ((Below.refl _ _).alloc (Nat.le_refl _) _).drew
                      | exact (((Below.refl _ _).alloc (Nat.le_refl _) _).alloc (by simp) _).drew
                      | exact ((Below.refl _ _).alloc (Nat.le_refl _) _).alloc (by simp) _
                      | (go_split_ands; refine Below.grown ?_ hgrow3 (Below.size (B := wA.heap.size) ?_) (fun y hy => (hown2'.lt y hy).1) <;> assumption)
                      | (go_split_ands; refine Below.grown ?_ hgrow2 (Below.size (B := wA.heap.size) ?_) (fun y hy => (hown1'.lt y hy).1) <;> assumption)
                      | (go_split_ands; refine Below.alloc ?_ (Below.size (B := wA.heap.size) ?_) _ <;> assumption)
                      | (go_split_ands; refine Below.drew ?_; refine Below.alloc ?_ (Below.size (B := wA.heap.size) ?_) _ <;> assumption)
                      | (go_split_ands; refine Below.grown ?_ hgrow1 (Below.size (B := wA.heap.size) ?_) (fun y hy => by simp [Value.ownBlock] at hy; omega) <;> assumption))))
                    (first
                      | (refine step_append_any _ (by rfl) _ _ _ (by rfl) wA.heap.size 34 i0 (.agg #[.int .i64 0, .int .i64 0, .int .i64 0, .int .i64 0, .int .i64 0]) 5 40 Tryd.underlying24 hi hz0 hz1 hz2 rfl (by omega) (.slice (some ⟨_, 0, none⟩) 0 0) 0 [] (by rfl) (by first | exact World.ownsRow_made wA #[] 0 (Nat.le_refl _) (by decide) rfl | exact (World.ownsRow_made wA #[] 0 (Nat.le_refl _) (by decide) rfl).alloc (.cells #[.int .i64 D.i, .int .i64 D.s, .int .i64 D.w, .int .i64 D.g, .int .i64 D.p] 34) | exact HOR3.out | fail) (some ⟨g, 0, none⟩) ca ca (cabs (O.take ca)) (by rfl) hlt1 (fun _ => ⟨_, rfl, HS1.out _ (by go_split_ands; assumption)⟩) H1a.out (by unfold maxLen; omega) (by omega) (by first | assumption | (simp; done) | (simp; omega) | fail) ?_; intro v1 wB hown1 hgrow1 hat1; have hzB : wA.heap.size ≤ wB.heap.size := by have h := hgrow1.size; simp at h; omega)
                      | (refine step_append_any _ (by rfl) _ _ _ (by rfl) wA.heap.size 34 i0 (.agg #[.int .i64 0, .int .i64 0, .int .i64 0, .int .i64 0, .int .i64 0]) 5 40 Tryd.underlying24 hi hz0 hz1 hz2 rfl (by omega) v2 _ _ (by rfl) hown2 (some ⟨g, 0, none⟩) 0 0 (cabs (O.drop ca)) (by rfl) hld (HS3.out _ (by go_split_ands; assumption)) H1b.out (by unfold maxLen; omega) (by omega) (by first | assumption | (simp; done) | (simp; omega) | fail) ?_; have hown2' := hown2; intro v3 wD hown3 hgrow3 hat3; have hzD : wA.heap.size ≤ wD.heap.size := by have h := hgrow3.size; omega)
                      | (refine step_append_any _ (by rfl) _ _ _ (by rfl) wA.heap.size 34 i0 (.agg #[.int .i64 0, .int .i64 0, .int .i64 0, .int .i64 0, .int .i64 0]) 5 40 Tryd.underlying24 hi hz0 hz1 hz2 rfl (by omega) v1 _ _ (by rfl) (by first | exact hown1 | exact hown1.alloc _ | fail) _ 1 1 [.int .i64 D.i, .int .i64 D.s, .int .i64 D.w, .int .i64 D.g, .int .i64 D.p] (by rfl) rfl (fun _ => ⟨_, rfl, World.news_of_block (cs := #[.int .i64 D.i, .int .i64 D.s, .int .i64 D.w, .int .i64 D.g, .int .i64 D.p]) (t := 34) (fr := (0, 0)) (by first
                          | exact (hgrow1.block (wA.heap.size + 1) (by simp) (by simp [Value.ownBlock])).trans HP2.out
                          | exact (hgrow1.block wA.heap.size (by simp <;> omega) (by simp [Value.ownBlock])).trans HP3.out
                          | exact heap_alloc_new wB _
                          | fail)⟩) (by simp [Value.oneCell']) (by unfold maxLen; omega) (by omega) (by first | assumption | (simp; done) | (simp; omega) | fail) ?_; have hown1' := hown1; intro v2 wC hown2 hgrow2 hat2; have hzC : wA.heap.size ≤ wC.heap.size := by have h := hgrow2.size; first | omega | (simp at h; omega))
                      | fail)
                  all_goals have hBD : Below wA.heap.size wA wD := by go_split_ands; assumption
                  all_goals have HTD : Hid (Below w.heap.size w wD) := Lib.hid (HTA.out.trans (hBD.mono (by omega)))
                  all_goals have HNN : Hid (v3.ownBlock ≠ none) := Lib.hid (own_three hat1 hat2 hat3)
                  all_goals have HO3 : Hid (wD.ownsRow w.heap.size 34 5 v3 (ca + 1) (cabs (ordK true l (ca + 1)))) := Lib.hid (by
                    have hl : ca + 1 = 0 + ca + 1 + 0 := by omega
                    have hx : cabs (ordK true l (ca + 1)) = [] ++ cabs (O.take ca) ++ [.int .i64 D.i, .int .i64 D.s, .int .i64 D.w, .int .i64 D.g, .int .i64 D.p] ++ cabs (O.drop ca) := by rw [HNX.out _ HPK.out, cabs_append, cabs_append, cabs_one]; simp only [List.nil_append, List.append_assoc]
                    rw [hx, hl]
                    exact own_mono hown3 (by omega))
                  all_goals clear hown3 hown2 hown1 hgrow1 hgrow2 hgrow3 hat1 hat2 hat3
                  all_goals go_wp2
                  all_goals go_roundw
                  all_goals first
                    | (case rel => exact ⟨ca + 1, by omega, by go_num, HO3.out, HNN, HTD⟩)
                    | skip
                  all_goals first
                    | (case measure => simp [intOf]; omega)
                    | skip
                · skip
                  go_wp2_with fail
                  have HKS : Hid (∀ W, Below wA.heap.size wA W → Below wA.heap.size wA W ∧ W.cell? ⟨a, oa + k * 5, none⟩ = some (.int .i64 D.i) ∧ W.cell? ⟨a, oa + k * 5 + 1, none⟩ = some (.int .i64 D.s) ∧ W.cell? ⟨a, oa + k * 5 + 2, none⟩ = some (.int .i64 D.w) ∧ W.cell? ⟨a, oa + k * 5 + 3, none⟩ = some (.int .i64 D.g) ∧ W.cell? ⟨a, oa + k * 5 + 4, none⟩ = some (.int .i64 D.p)) := Lib.hid (fun W h => ⟨h, HXA.out W h⟩)
                  have HS1 : Hid (∀ W, Below wA.heap.size wA W → ∀ z u, (cabs (O.take k))[z]? = some u → W.cell? ((⟨g, 0, none⟩ : Addr).add z) = some u) := Lib.hid (fun W h z u hu => (h.cell (by rw [gs_addr]; show g < _; omega)).trans (HOA.out.cells (g := g) rfl z u (by
                    have e : cabs O = cabs (O.take k) ++ cabs (O.drop k) := by rw [← cabs_append, List.take_append_drop]
                    rw [e, List.getElem?_append_left (List.getElem?_eq_some_iff.1 hu).1]; exact hu)))
                  have HS3 : Hid (∀ W, Below wA.heap.size wA W → 0 < 0 → ∃ ad : Addr, ((some ⟨g, k * 5, none⟩) : Option Addr) = some ad ∧ ∀ z u, (cabs (O.drop k))[z]? = some u → W.cell? (ad.add z) = some u) := Lib.hid (fun W h hrn => ⟨⟨g, k * 5, none⟩, rfl, fun z u hu => by
                    have h1 := HOA.out.cells (g := g) rfl (k * 5 + z) u (by
                      have e : cabs O = cabs (O.take k) ++ cabs (O.drop k) := by rw [← cabs_append, List.take_append_drop]
                      have hl : (cabs (O.take k)).length = k * 5 := cabs_take_len O _ (by rw [HOL.out]; omega)
                      rw [e, List.getElem?_append_right (by omega), hl, Nat.add_sub_cancel_left]; exact hu)
                    rw [gs_addr] at h1 ⊢
                    rw [h.cell (by show g < _; omega)]
                    simpa using h1⟩)
                  have hlt1 : (cabs (O.take k)).length = k * 5 := cabs_take_len O k (by rw [HOL.out]; omega)
                  have hld : (cabs (O.drop k)).length = 0 * 5 := by rw [cabs_len, List.length_drop, HOL.out] <;> first | done | (congr 1 <;> omega)
                  have HP2 : Hid (((wA.alloc (.cells #[] 34)).alloc (.cells #[.int .i64 D.i, .int .i64 D.s, .int .i64 D.w, .int .i64 D.g, .int .i64 D.p] 34)).heap[wA.heap.size + 1]? = some (.cells #[.int .i64 D.i, .int .i64 D.s, .int .i64 D.w, .int .i64 D.g, .int .i64 D.p] 34)) := Lib.hid (by simpa using heap_alloc_new (wA.alloc (.cells #[] 34)) (.cells #[.int .i64 D.i, .int .i64 D.s, .int .i64 D.w, .int .i64 D.g, .int .i64 D.p] 34))
                  have HP3 : Hid (((wA.alloc (.cells #[.int .i64 D.i, .int .i64 D.s, .int .i64 D.w, .int .i64 D.g, .int .i64 D.p] 34)).alloc (.cells #[] 34)).heap[wA.heap.size]? = some (.cells #[.int .i64 D.i, .int .i64 D.s, .int .i64 D.w, .int .i64 D.g, .int .i64 D.p] 34)) := Lib.hid ((heap_alloc_old (wA.alloc (.cells #[.int .i64 D.i, .int .i64 D.s, .int .i64 D.w, .int .i64 D.g, .int .i64 D.p] 34)) _ (by simp)).trans (heap_alloc_new wA _))
                  have HOR3 : Hid (((wA.alloc (.cells #[.int .i64 D.i, .int .i64 D.s, .int .i64 D.w, .int .i64 D.g, .int .i64 D.p] 34)).alloc (.cells #[] 34)).ownsRow wA.heap.size 34 5 (.slice (some ⟨wA.heap.size + 1, 0, none⟩) 0 0) 0 []) := Lib.hid (by
                    have h := World.ownsRow_made (wA.alloc (.cells #[.int .i64 D.i, .int .i64 D.s, .int .i64 D.w, .int .i64 D.g, .int .i64 D.p] 34)) #[] 0 (base := wA.heap.size) (e := 34) (size := 5) (by simp) (by decide) rfl
                    rw [show (wA.alloc (.cells #[.int .i64 D.i, .int .i64 D.s, .int .i64 D.w, .int .i64 D.g, .int .i64 D.p] 34)).heap.size = wA.heap.size + 1 by simp] at h
                    exact h)
                  have H1a := Lib.hid (cabs_one_cell (O.take k))
                  have H1b := Lib.hid (cabs_one_cell (O.drop k))
                  go_region_held3 (fun w' => Below wA.heap.size wA w' ∧ w'.cell? ⟨a, oa + k * 5, none⟩ = some (.int .i64 D.i) ∧ w'.cell? ⟨a, oa + k * 5 + 1, none⟩ = some (.int .i64 D.s) ∧ w'.cell? ⟨a, oa + k * 5 + 2, none⟩ = some (.int .i64 D.w) ∧ w'.cell? ⟨a, oa + k * 5 + 3, none⟩ = some (.int .i64 D.g) ∧ w'.cell? ⟨a, oa + k * 5 + 4, none⟩ = some (.int .i64 D.p))
                    (exact HKS.out _ (by (first
                      | exact (Below.refl _ _).drew
                      | exact Below.refl _ _
                      | exact (Below.refl _ _).alloc (Nat.le_refl _) _
                      | exact ((Below.refl _ _).alloc (Nat.le_refl _) _).drew
                      | exact (((Below.refl _ _).alloc (Nat.le_refl _) _).alloc (by simp) _).drew
                      | exact ((Below.refl _ _).alloc (Nat.le_refl _) _).alloc (by simp) _
                      | (go_split_ands; refine Below.grown ?_ hgrow3 (Below.size (B := wA.heap.size) ?_) (fun y hy => (hown2'.lt y hy).1) <;> assumption)
                      | (go_split_ands; refine Below.grown ?_ hgrow2 (Below.size (B := wA.heap.size) ?_) (fun y hy => (hown1'.lt y hy).1) <;> assumption)
                      | (go_split_ands; refine Below.alloc ?_ (Below.size (B := wA.heap.size) ?_) _ <;> assumption)
                      | (go_split_ands; refine Below.drew ?_; refine Below.alloc ?_ (Below.size (B := wA.heap.size) ?_) _ <;> assumption)
                      | (go_split_ands; refine Below.grown ?_ hgrow1 (Below.size (B := wA.heap.size) ?_) (fun y hy => by simp [Value.ownBlock] at hy; omega) <;> assumption))))
                    (first
                      | (refine step_append_any _ (by rfl) _ _ _ (by rfl) wA.heap.size 34 i0 (.agg #[.int .i64 0, .int .i64 0, .int .i64 0, .int .i64 0, .int .i64 0]) 5 40 Tryd.underlying24 hi hz0 hz1 hz2 rfl (by omega) (.slice (some ⟨_, 0, none⟩) 0 0) 0 [] (by rfl) (by first | exact World.ownsRow_made wA #[] 0 (Nat.le_refl _) (by decide) rfl | exact (World.ownsRow_made wA #[] 0 (Nat.le_refl _) (by decide) rfl).alloc (.cells #[.int .i64 D.i, .int .i64 D.s, .int .i64 D.w, .int .i64 D.g, .int .i64 D.p] 34) | exact HOR3.out | fail) (some ⟨g, 0, none⟩) k ca (cabs (O.take k)) (by rfl) hlt1 (fun _ => ⟨_, rfl, HS1.out _ (by go_split_ands; assumption)⟩) H1a.out (by unfold maxLen; omega) (by omega) (by first | assumption | (simp; done) | (simp; omega) | fail) ?_; intro v1 wB hown1 hgrow1 hat1; have hzB : wA.heap.size ≤ wB.heap.size := by have h := hgrow1.size; simp at h; omega)
                      | (refine step_append_any _ (by rfl) _ _ _ (by rfl) wA.heap.size 34 i0 (.agg #[.int .i64 0, .int .i64 0, .int .i64 0, .int .i64 0, .int .i64 0]) 5 40 Tryd.underlying24 hi hz0 hz1 hz2 rfl (by omega) v2 _ _ (by rfl) hown2 (some ⟨g, k * 5, none⟩) 0 (ca - k) (cabs (O.drop k)) (by rfl) hld (HS3.out _ (by go_split_ands; assumption)) H1b.out (by unfold maxLen; omega) (by omega) (by first | assumption | (simp; done) | (simp; omega) | fail) ?_; have hown2' := hown2; intro v3 wD hown3 hgrow3 hat3; have hzD : wA.heap.size ≤ wD.heap.size := by have h := hgrow3.size; omega)
                      | (refine step_append_any _ (by rfl) _ _ _ (by rfl) wA.heap.size 34 i0 (.agg #[.int .i64 0, .int .i64 0, .int .i64 0, .int .i64 0, .int .i64 0]) 5 40 Tryd.underlying24 hi hz0 hz1 hz2 rfl (by omega) v1 _ _ (by rfl) (by first | exact hown1 | exact hown1.alloc _ | fail) _ 1 1 [.int .i64 D.i, .int .i64 D.s, .int .i64 D.w, .int .i64 D.g, .int .i64 D.p] (by rfl) rfl (fun _ => ⟨_, rfl, World.news_of_block (cs := #[.int .i64 D.i, .int .i64 D.s, .int .i64 D.w, .int .i64 D.g, .int .i64 D.p]) (t := 34) (fr := (0, 0)) (by first
                          | exact (hgrow1.block (wA.heap.size + 1) (by simp) (by simp [Value.ownBlock])).trans HP2.out
                          | exact (hgrow1.block wA.heap.size (by simp <;> omega) (by simp [Value.ownBlock])).trans HP3.out
                          | exact heap_alloc_new wB _
                          | fail)⟩) (by simp [Value.oneCell']) (by unfold maxLen; omega) (by omega) (by first | assumption | (simp; done) | (simp; omega) | fail) ?_; have hown1' := hown1; intro v2 wC hown2 hgrow2 hat2; have hzC : wA.heap.size ≤ wC.heap.size := by have h := hgrow2.size; first | omega | (simp at h; omega))
                      | fail)
                  all_goals have hBD : Below wA.heap.size wA wD := by go_split_ands; assumption
                  all_goals have HTD : Hid (Below w.heap.size w wD) := Lib.hid (HTA.out.trans (hBD.mono (by omega)))
                  all_goals have HNN : Hid (v3.ownBlock ≠ none) := Lib.hid (own_three hat1 hat2 hat3)
                  all_goals have HO3 : Hid (wD.ownsRow w.heap.size 34 5 v3 (k + 1) (cabs (ordK true l (k + 1)))) := Lib.hid (by
                    have hl : k + 1 = 0 + k + 1 + 0 := by omega
                    have hx : cabs (ordK true l (k + 1)) = [] ++ cabs (O.take k) ++ [.int .i64 D.i, .int .i64 D.s, .int .i64 D.w, .int .i64 D.g, .int .i64 D.p] ++ cabs (O.drop k) := by rw [HNX.out _ HPK.out, cabs_append, cabs_append, cabs_one]; simp only [List.nil_append, List.append_assoc]
                    rw [hx, hl]
                    exact own_mono hown3 (by omega))
                  all_goals clear hown3 hown2 hown1 hgrow1 hgrow2 hgrow3 hat1 hat2 hat3
                  all_goals go_wp2
                  all_goals go_roundw
                  all_goals first
                    | (case rel => exact ⟨k + 1, by omega, by go_num, HO3.out, HNN, HTD⟩)
                    | skip
                  all_goals first
                    | (case measure => simp [intOf]; omega)
                    | skip
              · have hca : ¬ ca = k := by omega
                have t4 : decide ((0 : Int) < ((j - k : Nat) : Int)) = true := by simp; omega
                have t6 : decide (k < j) = true := by simp; omega
                have t7 : decide (0 < j - k) = true := by simp; omega
                have t8 : decide ((k : Int) < (j : Int)) = true := by simp; omega
                have t9 : 0 < j - k := by omega
                go_wp2_with fail
                have HKS : Hid (∀ W, Below wA.heap.size wA W → Below wA.heap.size wA W ∧ W.cell? ⟨a, oa + j * 5, none⟩ = some (.int .i64 D.i) ∧ W.cell? ⟨a, oa + j * 5 + 1, none⟩ = some (.int .i64 D.s) ∧ W.cell? ⟨a, oa + j * 5 + 2, none⟩ = some (.int .i64 D.w) ∧ W.cell? ⟨a, oa + j * 5 + 3, none⟩ = some (.int .i64 D.g) ∧ W.cell? ⟨a, oa + j * 5 + 4, none⟩ = some (.int .i64 D.p)) := Lib.hid (fun W h => ⟨h, HXA.out W h⟩)
                have HS1 : Hid (∀ W, Below wA.heap.size wA W → ∀ z u, (cabs (O.take k))[z]? = some u → W.cell? ((⟨g, 0, none⟩ : Addr).add z) = some u) := Lib.hid (fun W h z u hu => (h.cell (by rw [gs_addr]; show g < _; omega)).trans (HOA.out.cells (g := g) rfl z u (by
                  have e : cabs O = cabs (O.take k) ++ cabs (O.drop k) := by rw [← cabs_append, List.take_append_drop]
                  rw [e, List.getElem?_append_left (List.getElem?_eq_some_iff.1 hu).1]; exact hu)))
                have HS3 : Hid (∀ W, Below wA.heap.size wA W → 0 < (j - k) → ∃ ad : Addr, ((some ⟨g, k * 5, none⟩) : Option Addr) = some ad ∧ ∀ z u, (cabs (O.drop k))[z]? = some u → W.cell? (ad.add z) = some u) := Lib.hid (fun W h hrn => ⟨⟨g, k * 5, none⟩, rfl, fun z u hu => by
                  have h1 := HOA.out.cells (g := g) rfl (k * 5 + z) u (by
                    have e : cabs O = cabs (O.take k) ++ cabs (O.drop k) := by rw [← cabs_append, List.take_append_drop]
                    have hl : (cabs (O.take k)).length = k * 5 := cabs_take_len O _ (by rw [HOL.out]; omega)
                    rw [e, List.getElem?_append_right (by omega), hl, Nat.add_sub_cancel_left]; exact hu)
                  rw [gs_addr] at h1 ⊢
                  rw [h.cell (by show g < _; omega)]
                  simpa using h1⟩)
                have hlt1 : (cabs (O.take k)).length = k * 5 := cabs_take_len O k (by rw [HOL.out]; omega)
                have hld : (cabs (O.drop k)).length = (j - k) * 5 := by rw [cabs_len, List.length_drop, HOL.out] <;> first | done | (congr 1 <;> omega)
                have HP2 : Hid (((wA.alloc (.cells #[] 34)).alloc (.cells #[.int .i64 D.i, .int .i64 D.s, .int .i64 D.w, .int .i64 D.g, .int .i64 D.p] 34)).heap[wA.heap.size + 1]? = some (.cells #[.int .i64 D.i, .int .i64 D.s, .int .i64 D.w, .int .i64 D.g, .int .i64 D.p] 34)) := Lib.hid (by simpa using heap_alloc_new (wA.alloc (.cells #[] 34)) (.cells #[.int .i64 D.i, .int .i64 D.s, .int .i64 D.w, .int .i64 D.g, .int .i64 D.p] 34))
                have HP3 : Hid (((wA.alloc (.cells #[.int .i64 D.i, .int .i64 D.s, .int .i64 D.w, .int .i64 D.g, .int .i64 D.p] 34)).alloc (.cells #[] 34)).heap[wA.heap.size]? = some (.cells #[.int .i64 D.i, .int .i64 D.s, .int .i64 D.w, .int .i64 D.g, .int .i64 D.p] 34)) := Lib.hid ((heap_alloc_old (wA.alloc (.cells #[.int .i64 D.i, .int .i64 D.s, .int .i64 D.w, .int .i64 D.g, .int .i64 D.p] 34)) _ (by simp)).trans (heap_alloc_new wA _))
                have HOR3 : Hid (((wA.alloc (.cells #[.int .i64 D.i, .int .i64 D.s, .int .i64 D.w, .int .i64 D.g, .int .i64 D.p] 34)).alloc (.cells #[] 34)).ownsRow wA.heap.size 34 5 (.slice (some ⟨wA.heap.size + 1, 0, none⟩) 0 0) 0 []) := Lib.hid (by
                  have h := World.ownsRow_made (wA.alloc (.cells #[.int .i64 D.i, .int .i64 D.s, .int .i64 D.w, .int .i64 D.g, .int .i64 D.p] 34)) #[] 0 (base := wA.heap.size) (e := 34) (size := 5) (by simp) (by decide) rfl
                  rw [show (wA.alloc (.cells #[.int .i64 D.i, .int .i64 D.s, .int .i64 D.w, .int .i64 D.g, .int .i64 D.p] 34)).heap.size = wA.heap.size + 1 by simp] at h
                  exact h)
                have H1a := Lib.hid (cabs_one_cell (O.take k))
                have H1b := Lib.hid (cabs_one_cell (O.drop k))
                go_region_held3 (fun w' => Below wA.heap.size wA w' ∧ w'.cell? ⟨a, oa + j * 5, none⟩ = some (.int .i64 D.i) ∧ w'.cell? ⟨a, oa + j * 5 + 1, none⟩ = some (.int .i64 D.s) ∧ w'.cell? ⟨a, oa + j * 5 + 2, none⟩ = some (.int .i64 D.w) ∧ w'.cell? ⟨a, oa + j * 5 + 3, none⟩ = some (.int .i64 D.g) ∧ w'.cell? ⟨a, oa + j * 5 + 4, none⟩ = some (.int .i64 D.p))
                  (exact HKS.out _ (by (first
                    | exact (Below.refl _ _).drew
                    | exact Below.refl _ _
                    | exact (Below.refl _ _).alloc (Nat.le_refl _) _
                    | exact ((Below.refl _ _).alloc (Nat.le_refl _) _).drew
                    | exact (((Below.refl _ _).alloc (Nat.le_refl _) _).alloc (by simp) _).drew
                    | exact ((Below.refl _ _).alloc (Nat.le_refl _) _).alloc (by simp) _
                    | (go_split_ands; refine Below.grown ?_ hgrow3 (Below.size (B := wA.heap.size) ?_) (fun y hy => (hown2'.lt y hy).1) <;> assumption)
                    | (go_split_ands; refine Below.grown ?_ hgrow2 (Below.size (B := wA.heap.size) ?_) (fun y hy => (hown1'.lt y hy).1) <;> assumption)
                    | (go_split_ands; refine Below.alloc ?_ (Below.size (B := wA.heap.size) ?_) _ <;> assumption)
                    | (go_split_ands; refine Below.drew ?_; refine Below.alloc ?_ (Below.size (B := wA.heap.size) ?_) _ <;> assumption)
                    | (go_split_ands; refine Below.grown ?_ hgrow1 (Below.size (B := wA.heap.size) ?_) (fun y hy => by simp [Value.ownBlock] at hy; omega) <;> assumption))))
                  (first
                    | (refine step_append_any _ (by rfl) _ _ _ (by rfl) wA.heap.size 34 i0 (.agg #[.int .i64 0, .int .i64 0, .int .i64 0, .int .i64 0, .int .i64 0]) 5 40 Tryd.underlying24 hi hz0 hz1 hz2 rfl (by omega) (.slice (some ⟨_, 0, none⟩) 0 0) 0 [] (by rfl) (by first | exact World.ownsRow_made wA #[] 0 (Nat.le_refl _) (by decide) rfl | exact (World.ownsRow_made wA #[] 0 (Nat.le_refl _) (by decide) rfl).alloc (.cells #[.int .i64 D.i, .int .i64 D.s, .int .i64 D.w, .int .i64 D.g, .int .i64 D.p] 34) | exact HOR3.out | fail) (some ⟨g, 0, none⟩) k ca (cabs (O.take k)) (by rfl) hlt1 (fun _ => ⟨_, rfl, HS1.out _ (by go_split_ands; assumption)⟩) H1a.out (by unfold maxLen; omega) (by omega) (by first | assumption | (simp; done) | (simp; omega) | fail) ?_; intro v1 wB hown1 hgrow1 hat1; have hzB : wA.heap.size ≤ wB.heap.size := by have h := hgrow1.size; simp at h; omega)
                    | (refine step_append_any _ (by rfl) _ _ _ (by rfl) wA.heap.size 34 i0 (.agg #[.int .i64 0, .int .i64 0, .int .i64 0, .int .i64 0, .int .i64 0]) 5 40 Tryd.underlying24 hi hz0 hz1 hz2 rfl (by omega) v2 _ _ (by rfl) hown2 (some ⟨g, k * 5, none⟩) (j - k) (ca - k) (cabs (O.drop k)) (by rfl) hld (HS3.out _ (by go_split_ands; assumption)) H1b.out (by unfold maxLen; omega) (by omega) (by first | assumption | (simp; done) | (simp; omega) | fail) ?_; have hown2' := hown2; intro v3 wD hown3 hgrow3 hat3; have hzD : wA.heap.size ≤ wD.heap.size := by have h := hgrow3.size; omega)
                    | (refine step_append_any _ (by rfl) _ _ _ (by rfl) wA.heap.size 34 i0 (.agg #[.int .i64 0, .int .i64 0, .int .i64 0, .int .i64 0, .int .i64 0]) 5 40 Tryd.underlying24 hi hz0 hz1 hz2 rfl (by omega) v1 _ _ (by rfl) (by first | exact hown1 | exact hown1.alloc _ | fail) _ 1 1 [.int .i64 D.i, .int .i64 D.s, .int .i64 D.w, .int .i64 D.g, .int .i64 D.p] (by rfl) rfl (fun _ => ⟨_, rfl, World.news_of_block (cs := #[.int .i64 D.i, .int .i64 D.s, .int .i64 D.w, .int .i64 D.g, .int .i64 D.p]) (t := 34) (fr := (0, 0)) (by first
                        | exact (hgrow1.block (wA.heap.size + 1) (by simp) (by simp [Value.ownBlock])).trans HP2.out
                        | exact (hgrow1.block wA.heap.size (by simp <;> omega) (by simp [Value.ownBlock])).trans HP3.out
                        | exact heap_alloc_new wB _
                        | fail)⟩) (by simp [Value.oneCell']) (by unfold maxLen; omega) (by omega) (by first | assumption | (simp; done) | (simp; omega) | fail) ?_; have hown1' := hown1; intro v2 wC hown2 hgrow2 hat2; have hzC : wA.heap.size ≤ wC.heap.size := by have h := hgrow2.size; first | omega | (simp at h; omega))
                    | fail)
                all_goals have hBD : Below wA.heap.size wA wD := by go_split_ands; assumption
                all_goals have HTD : Hid (Below w.heap.size w wD) := Lib.hid (HTA.out.trans (hBD.mono (by omega)))
                all_goals have HNN : Hid (v3.ownBlock ≠ none) := Lib.hid (own_three hat1 hat2 hat3)
                all_goals have HO3 : Hid (wD.ownsRow w.heap.size 34 5 v3 (j + 1) (cabs (ordK true l (j + 1)))) := Lib.hid (by
                  have hl : j + 1 = 0 + k + 1 + (j - k) := by omega
                  have hx : cabs (ordK true l (j + 1)) = [] ++ cabs (O.take k) ++ [.int .i64 D.i, .int .i64 D.s, .int .i64 D.w, .int .i64 D.g, .int .i64 D.p] ++ cabs (O.drop k) := by rw [HNX.out _ HPK.out, cabs_append, cabs_append, cabs_one]; simp only [List.nil_append, List.append_assoc]
                  rw [hx, hl]
                  exact own_mono hown3 (by omega))
                all_goals clear hown3 hown2 hown1 hgrow1 hgrow2 hgrow3 hat1 hat2 hat3
                all_goals go_wp2
                all_goals go_roundw
                all_goals first
                  | (case rel => exact ⟨j + 1, by omega, by go_num, HO3.out, HNN, HTD⟩)
                  | skip
                all_goals first
                  | (case measure => simp [intOf]; omega)
                  | skip
          · have HPK : Hid (pkC true O D j = k) := Lib.hid (by
              obtain rfl : k = 0 := by omega
              rw [← hpk.out]; rfl)
            have t1 : decide ((0 : Int) < (k : Int)) = false := by simp; omega
            go_wp2_with fail
            go_quiet (fail)
            go_wp2_with fail
            have hszA : w.heap.size ≤ ((wr.drewN m).drewN nq).heap.size := hbs
            have HTA : Hid (Below w.heap.size w ((wr.drewN m).drewN nq)) := Lib.hid (below_drewN (below_drewN hbel.out m) nq)
            have HOA : Hid (((wr.drewN m).drewN nq).ownsRow w.heap.size 34 5 (.slice (some ⟨g, 0, none⟩) j ca) j (cabs O)) := Lib.hid (own_drew (own_drew HOO.out ⟨m, rfl⟩) ⟨nq, rfl⟩)
            have HXA : Hid (∀ W, Below ((wr.drewN m).drewN nq).heap.size ((wr.drewN m).drewN nq) W → W.cell? ⟨a, oa + j * 5, none⟩ = some (.int .i64 D.i) ∧ W.cell? ⟨a, oa + j * 5 + 1, none⟩ = some (.int .i64 D.s) ∧ W.cell? ⟨a, oa + j * 5 + 2, none⟩ = some (.int .i64 D.w) ∧ W.cell? ⟨a, oa + j * 5 + 3, none⟩ = some (.int .i64 D.g) ∧ W.cell? ⟨a, oa + j * 5 + 4, none⟩ = some (.int .i64 D.p)) := Lib.hid (fun W h => HXC.out W (HTA.out.trans (h.mono hszA)))
            have hgA : g < ((wr.drewN m).drewN nq).heap.size := hgw
            have hlaA : a < ((wr.drewN m).drewN nq).heap.size := by omega
            generalize ((wr.drewN m).drewN nq) = wA at *
            clear t1 hk0
            have hb1 : (0 : Int) ≤ (k : Int) := by omega
            have hb2 : (k : Int) ≤ (ca : Int) := by omega
            have hb3 : (k : Int) ≤ (j : Int) := by omega
            by_cases hkj2 : k = j
            · subst hkj2
              by_cases hca : ca = k
              · subst hca
                go_wp2_with fail
                have HKS : Hid (∀ W, Below wA.heap.size wA W → Below wA.heap.size wA W ∧ W.cell? ⟨a, oa + ca * 5, none⟩ = some (.int .i64 D.i) ∧ W.cell? ⟨a, oa + ca * 5 + 1, none⟩ = some (.int .i64 D.s) ∧ W.cell? ⟨a, oa + ca * 5 + 2, none⟩ = some (.int .i64 D.w) ∧ W.cell? ⟨a, oa + ca * 5 + 3, none⟩ = some (.int .i64 D.g) ∧ W.cell? ⟨a, oa + ca * 5 + 4, none⟩ = some (.int .i64 D.p)) := Lib.hid (fun W h => ⟨h, HXA.out W h⟩)
                have HS1 : Hid (∀ W, Below wA.heap.size wA W → ∀ z u, (cabs (O.take ca))[z]? = some u → W.cell? ((⟨g, 0, none⟩ : Addr).add z) = some u) := Lib.hid (fun W h z u hu => (h.cell (by rw [gs_addr]; show g < _; omega)).trans (HOA.out.cells (g := g) rfl z u (by
                  have e : cabs O = cabs (O.take ca) ++ cabs (O.drop ca) := by rw [← cabs_append, List.take_append_drop]
                  rw [e, List.getElem?_append_left (List.getElem?_eq_some_iff.1 hu).1]; exact hu)))
                have HS3 : Hid (∀ W, Below wA.heap.size wA W → 0 < 0 → ∃ ad : Addr, ((some ⟨g, 0, none⟩) : Option Addr) = some ad ∧ ∀ z u, (cabs (O.drop ca))[z]? = some u → W.cell? (ad.add z) = some u) := Lib.hid (fun W h hrn => ⟨⟨g, ca * 5, none⟩, by omega, fun z u hu => by
                  have h1 := HOA.out.cells (g := g) rfl (ca * 5 + z) u (by
                    have e : cabs O = cabs (O.take ca) ++ cabs (O.drop ca) := by rw [← cabs_append, List.take_append_drop]
                    have hl : (cabs (O.take ca)).length = ca * 5 := cabs_take_len O _ (by rw [HOL.out]; omega)
                    rw [e, List.getElem?_append_right (by omega), hl, Nat.add_sub_cancel_left]; exact hu)
                  rw [gs_addr] at h1 ⊢
                  rw [h.cell (by show g < _; omega)]
                  simpa using h1⟩)
                have hlt1 : (cabs (O.take ca)).length = ca * 5 := cabs_take_len O ca (by rw [HOL.out]; omega)
                have hld : (cabs (O.drop ca)).length = 0 * 5 := by rw [cabs_len, List.length_drop, HOL.out] <;> first | done | (congr 1 <;> omega)
                have HP2 : Hid (((wA.alloc (.cells #[] 34)).alloc (.cells #[.int .i64 D.i, .int .i64 D.s, .int .i64 D.w, .int .i64 D.g, .int .i64 D.p] 34)).heap[wA.heap.size + 1]? = some (.cells #[.int .i64 D.i, .int .i64 D.s, .int .i64 D.w, .int .i64 D.g, .int .i64 D.p] 34)) := Lib.hid (by simpa using heap_alloc_new (wA.alloc (.cells #[] 34)) (.cells #[.int .i64 D.i, .int .i64 D.s, .int .i64 D.w, .int .i64 D.g, .int .i64 D.p] 34))
                have HP3 : Hid (((wA.alloc (.cells #[.int .i64 D.i, .int .i64 D.s, .int .i64 D.w, .int .i64 D.g, .int .i64 D.p] 34)).alloc (.cells #[] 34)).heap[wA.heap.size]? = some (.cells #[.int .i64 D.i, .int .i64 D.s, .int .i64 D.w, .int .i64 D.g, .int .i64 D.p] 34)) := Lib.hid ((heap_alloc_old (wA.alloc (.cells #[.int .i64 D.i, .int .i64 D.s, .int .i64 D.w, .int .i64 D.g, .int .i64 D.p] 34)) _ (by simp)).trans (heap_alloc_new wA _))
                have HOR3 : Hid (((wA.alloc (.cells #[.int .i64 D.i, .int .i64 D.s, .int .i64 D.w, .int .i64 D.g, .int .i64 D.p] 34)).alloc (.cells #[] 34)).ownsRow wA.heap.size 34 5 (.slice (some ⟨wA.heap.size + 1, 0, none⟩) 0 0) 0 []) := Lib.hid (by
                  have h := World.ownsRow_made (wA.alloc (.cells #[.int .i64 D.i, .int .i64 D.s, .int .i64 D.w, .int .i64 D.g, .int .i64 D.p] 34)) #[] 0 (base := wA.heap.size) (e := 34) (size := 5) (by simp) (by decide) rfl
                  rw [show (wA.alloc (.cells #[.int .i64 D.i, .int .i64 D.s, .int .i64 D.w, .int .i64 D.g, .int .i64 D.p] 34)).heap.size = wA.heap.size + 1 by simp] at h
                  exact h)
                have H1a := Lib.hid (cabs_one_cell (O.take ca))
                have H1b := Lib.hid (cabs_one_cell (O.drop ca))
                go_region_held3 (fun w' => Below wA.heap.size wA w' ∧ w'.cell? ⟨a, oa + ca * 5, none⟩ = some (.int .i64 D.i) ∧ w'.cell? ⟨a, oa + ca * 5 + 1, none⟩ = some (.int .i64 D.s) ∧ w'.cell? ⟨a, oa + ca * 5 + 2, none⟩ = some (.int .i64 D.w) ∧ w'.cell? ⟨a, oa + ca * 5 + 3, none⟩ = some (.int .i64 D.g) ∧ w'.cell? ⟨a, oa + ca * 5 + 4, none⟩ = some (.int .i64 D.p))
                  (exact HKS.out _ (by (first
                    | exact (Below.refl _ _).drew
                    | exact Below.refl _ _
                    | exact (Below.refl _ _).alloc (Nat.le_refl _) _
                    | exact ((Below.refl _ _).alloc (Nat.le_refl _) _).drew
                    | exact (((Below.refl _ _).alloc (Nat.le_refl _) _).alloc (by simp) _).drew
                    | exact ((Below.refl _ _).alloc (Nat.le_refl _) _).alloc (by simp) _
                    | (go_split_ands; refine Below.grown ?_ hgrow3 (Below.size (B := wA.heap.size) ?_) (fun y hy => (hown2'.lt y hy).1) <;> assumption)
                    | (go_split_ands; refine Below.grown ?_ hgrow2 (Below.size (B := wA.heap.size) ?_) (fun y hy => (hown1'.lt y hy).1) <;> assumption)
                    | (go_split_ands; refine Below.alloc ?_ (Below.size (B := wA.heap.size) ?_) _ <;> assumption)
                    | (go_split_ands; refine Below.drew ?_; refine Below.alloc ?_ (Below.size (B := wA.heap.size) ?_) _ <;> assumption)
                    | (go_split_ands; refine Below.grown ?_ hgrow1 (Below.size (B := wA.heap.size) ?_) (fun y hy => by simp [Value.ownBlock] at hy; omega) <;> assumption))))
                  (first
                    | (refine step_append_any _ (by rfl) _ _ _ (by rfl) wA.heap.size 34 i0 (.agg #[.int .i64 0, .int .i64 0, .int .i64 0, .int .i64 0, .int .i64 0]) 5 40 Tryd.underlying24 hi hz0 hz1 hz2 rfl (by omega) (.slice (some ⟨_, 0, none⟩) 0 0) 0 [] (by rfl) (by first | exact World.ownsRow_made wA #[] 0 (Nat.le_refl _) (by decide) rfl | exact (World.ownsRow_made wA #[] 0 (Nat.le_refl _) (by decide) rfl).alloc (.cells #[.int .i64 D.i, .int .i64 D.s, .int .i64 D.w, .int .i64 D.g, .int .i64 D.p] 34) | exact HOR3.out | fail) (some ⟨g, 0, none⟩) ca ca (cabs (O.take ca)) (by rfl) hlt1 (fun _ => ⟨_, rfl, HS1.out _ (by go_split_ands; assumption)⟩) H1a.out (by unfold maxLen; omega) (by omega) (by first | assumption | (simp; done) | (simp; omega) | fail) ?_; intro v1 wB hown1 hgrow1 hat1; have hzB : wA.heap.size ≤ wB.heap.size := by have h := hgrow1.size; simp at h; omega)
                    | (refine step_append_any _ (by rfl) _ _ _ (by rfl) wA.heap.size 34 i0 (.agg #[.int .i64 0, .int .i64 0, .int .i64 0, .int .i64 0, .int .i64 0]) 5 40 Tryd.underlying24 hi hz0 hz1 hz2 rfl (by omega) v2 _ _ (by rfl) hown2 (some ⟨g, 0, none⟩) 0 0 (cabs (O.drop ca)) (by rfl) hld (HS3.out _ (by go_split_ands; assumption)) H1b.out (by unfold maxLen; omega) (by omega) (by first | assumption | (simp; done) | (simp; omega) | fail) ?_; have hown2' := hown2; intro v3 wD hown3 hgrow3 hat3; have hzD : wA.heap.size ≤ wD.heap.size := by have h := hgrow3.size; omega)
                    | (refine step_append_any _ (by rfl) _ _ _ (by rfl) wA.heap.size 34 i0 (.agg #[.int .i64 0, .int .i64 0, .int .i64 0, .int .i64 0, .int .i64 0]) 5 40 Tryd.underlying24 hi hz0 hz1 hz2 rfl (by omega) v1 _ _ (by rfl) (by first | exact hown1 | exact hown1.alloc _ | fail) _ 1 1 [.int .i64 D.i, .int .i64 D.s, .int .i64 D.w, .int .i64 D.g, .int .i64 D.p] (by rfl) rfl (fun _ => ⟨_, rfl, World.news_of_block (cs := #[.int .i64 D.i, .int .i64 D.s, .int .i64 D.w, .int .i64 D.g, .int .i64 D.p]) (t := 34) (fr := (0, 0)) (by first
                        | exact (hgrow1.block (wA.heap.size + 1) (by simp) (by simp [Value.ownBlock])).trans HP2.out
                        | exact (hgrow1.block wA.heap.size (by simp <;> omega) (by simp [Value.ownBlock])).trans HP3.out
                        | exact heap_alloc_new wB _
                        | fail)⟩) (by simp [Value.oneCell']) (by unfold maxLen; omega) (by omega) (by first | assumption | (simp; done) | (simp; omega) | fail) ?_; have hown1' := hown1; intro v2 wC hown2 hgrow2 hat2; have hzC : wA.heap.size ≤ wC.heap.size := by have h := hgrow2.size; first | omega | (simp at h; omega))
                    | fail)
                all_goals have hBD : Below wA.heap.size wA wD := by go_split_ands; assumption
                all_goals have HTD : Hid (Below w.heap.size w wD) := Lib.hid (HTA.out.trans (hBD.mono (by omega)))
                all_goals have HNN : Hid (v3.ownBlock ≠ none) := Lib.hid (own_three hat1 hat2 hat3)
                all_goals have HO3 : Hid (wD.ownsRow w.heap.size 34 5 v3 (ca + 1) (cabs (ordK true l (ca + 1)))) := Lib.hid (by
                  have hl : ca + 1 = 0 + ca + 1 + 0 := by omega
                  have hx : cabs (ordK true l (ca + 1)) = [] ++ cabs (O.take ca) ++ [.int .i64 D.i, .int .i64 D.s, .int .i64 D.w, .int .i64 D.g, .int .i64 D.p] ++ cabs (O.drop ca) := by rw [HNX.out _ HPK.out, cabs_append, cabs_append, cabs_one]; simp only [List.nil_append, List.append_assoc]
                  rw [hx, hl]
                  exact own_mono hown3 (by omega))
                all_goals clear hown3 hown2 hown1 hgrow1 hgrow2 hgrow3 hat1 hat2 hat3
                all_goals go_wp2
                all_goals go_roundw
                all_goals first
                  | (case rel => exact ⟨ca + 1, by omega, by go_num, HO3.out, HNN, HTD⟩)
                  | skip
                all_goals first
                  | (case measure => simp [intOf]; omega)
                  | skip
              · skip
                go_wp2_with fail
                have HKS : Hid (∀ W, Below wA.heap.size wA W → Below wA.heap.size wA W ∧ W.cell? ⟨a, oa + k * 5, none⟩ = some (.int .i64 D.i) ∧ W.cell? ⟨a, oa + k * 5 + 1, none⟩ = some (.int .i64 D.s) ∧ W.cell? ⟨a, oa + k * 5 + 2, none⟩ = some (.int .i64 D.w) ∧ W.cell? ⟨a, oa + k * 5 + 3, none⟩ = some (.int .i64 D.g) ∧ W.cell? ⟨a, oa + k * 5 + 4, none⟩ = some (.int .i64 D.p)) := Lib.hid (fun W h => ⟨h, HXA.out W h⟩)
                have HS1 : Hid (∀ W, Below wA.heap.size wA W → ∀ z u, (cabs (O.take k))[z]? = some u → W.cell? ((⟨g, 0, none⟩ : Addr).add z) = some u) := Lib.hid (fun W h z u hu => (h.cell (by rw [gs_addr]; show g < _; omega)).trans (HOA.out.cells (g := g) rfl z u (by
                  have e : cabs O = cabs (O.take k) ++ cabs (O.drop k) := by rw [← cabs_append, List.take_append_drop]
                  rw [e, List.getElem?_append_left (List.getElem?_eq_some_iff.1 hu).1]; exact hu)))
                have HS3 : Hid (∀ W, Below wA.heap.size wA W → 0 < 0 → ∃ ad : Addr, ((some ⟨g, k * 5, none⟩) : Option Addr) = some ad ∧ ∀ z u, (cabs (O.drop k))[z]? = some u → W.cell? (ad.add z) = some u) := Lib.hid (fun W h hrn => ⟨⟨g, k * 5, none⟩, rfl, fun z u hu => by
                  have h1 := HOA.out.cells (g := g) rfl (k * 5 + z) u (by
                    have e : cabs O = cabs (O.take k) ++ cabs (O.drop k) := by rw [← cabs_append, List.take_append_drop]
                    have hl : (cabs (O.take k)).length = k * 5 := cabs_take_len O _ (by rw [HOL.out]; omega)
                    rw [e, List.getElem?_append_right (by omega), hl, Nat.add_sub_cancel_left]; exact hu)
                  rw [gs_addr] at h1 ⊢
                  rw [h.cell (by show g < _; omega)]
                  simpa using h1⟩)
                have hlt1 : (cabs (O.take k)).length = k * 5 := cabs_take_len O k (by rw [HOL.out]; omega)
                have hld : (cabs (O.drop k)).length = 0 * 5 := by rw [cabs_len, List.length_drop, HOL.out] <;> first | done | (congr 1 <;> omega)
                have HP2 : Hid (((wA.alloc (.cells #[] 34)).alloc (.cells #[.int .i64 D.i, .int .i64 D.s, .int .i64 D.w, .int .i64 D.g, .int .i64 D.p] 34)).heap[wA.heap.size + 1]? = some (.cells #[.int .i64 D.i, .int .i64 D.s, .int .i64 D.w, .int .i64 D.g, .int .i64 D.p] 34)) := Lib.hid (by simpa using heap_alloc_new (wA.alloc (.cells #[] 34)) (.cells #[.int .i64 D.i, .int .i64 D.s, .int .i64 D.w, .int .i64 D.g, .int .i64 D.p] 34))
                have HP3 : Hid (((wA.alloc (.cells #[.int .i64 D.i, .int .i64 D.s, .int .i64 D.w, .int .i64 D.g, .int .i64 D.p] 34)).alloc (.cells #[] 34)).heap[wA.heap.size]? = some (.cells #[.int .i64 D.i, .int .i64 D.s, .int .i64 D.w, .int .i64 D.g, .int .i64 D.p] 34)) := Lib.hid ((heap_alloc_old (wA.alloc (.cells #[.int .i64 D.i, .int .i64 D.s, .int .i64 D.w, .int .i64 D.g, .int .i64 D.p] 34)) _ (by simp)).trans (heap_alloc_new wA _))
                have HOR3 : Hid (((wA.alloc (.cells #[.int .i64 D.i, .int .i64 D.s, .int .i64 D.w, .int .i64 D.g, .int .i64 D.p] 34)).alloc (.cells #[] 34)).ownsRow wA.heap.size 34 5 (.slice (some ⟨wA.heap.size + 1, 0, none⟩) 0 0) 0 []) := Lib.hid (by
                  have h := World.ownsRow_made (wA.alloc (.cells #[.int .i64 D.i, .int .i64 D.s, .int .i64 D.w, .int .i64 D.g, .int .i64 D.p] 34)) #[] 0 (base := wA.heap.size) (e := 34) (size := 5) (by simp) (by decide) rfl
                  rw [show (wA.alloc (.cells #[.int .i64 D.i, .int .i64 D.s, .int .i64 D.w, .int .i64 D.g, .int .i64 D.p] 34)).heap.size = wA.heap.size + 1 by simp] at h
                  exact h)
                have H1a := Lib.hid (cabs_one_cell (O.take k))
                have H1b := Lib.hid (cabs_one_cell (O.drop k))
                go_region_held3 (fun w' => Below wA.heap.size wA w' ∧ w'.cell? ⟨a, oa + k * 5, none⟩ = some (.int .i64 D.i) ∧ w'.cell? ⟨a, oa + k * 5 + 1, none⟩ = some (.int .i64 D.s) ∧ w'.cell? ⟨a, oa + k * 5 + 2, none⟩ = some (.int .i64 D.w) ∧ w'.cell? ⟨a, oa + k * 5 + 3, none⟩ = some (.int .i64 D.g) ∧ w'.cell? ⟨a, oa + k * 5 + 4, none⟩ = some (.int .i64 D.p))
                  (exact HKS.out _ (by (first
                    | exact (Below.refl _ _).drew
                    | exact Below.refl _ _
                    | exact (Below.refl _ _).alloc (Nat.le_refl _) _
                    | exact ((Below.refl _ _).alloc (Nat.le_refl _) _).drew
                    | exact (((Below.refl _ _).alloc (Nat.le_refl _) _).alloc (by simp) _).drew
                    | exact ((Below.refl _ _).alloc (Nat.le_refl _) _).alloc (by simp) _
                    | (go_split_ands; refine Below.grown ?_ hgrow3 (Below.size (B := wA.heap.size) ?_) (fun y hy => (hown2'.lt y hy).1) <;> assumption)
                    | (go_split_ands; refine Below.grown ?_ hgrow2 (Below.size (B := wA.heap.size) ?_) (fun y hy => (hown1'.lt y hy).1) <;> assumption)
                    | (go_split_ands; refine Below.alloc ?_ (Below.size (B := wA.heap.size) ?_) _ <;> assumption)
                    | (go_split_ands; refine Below.drew ?_; refine Below.alloc ?_ (Below.size (B := wA.heap.size) ?_) _ <;> assumption)
                    | (go_split_ands; refine Below.grown ?_ hgrow1 (Below.size (B := wA.heap.size) ?_) (fun y hy => by simp [Value.ownBlock] at hy; omega) <;> assumption))))
                  (first
                    | (refine step_append_any _ (by rfl) _ _ _ (by rfl) wA.heap.size 34 i0 (.agg #[.int .i64 0, .int .i64 0, .int .i64 0, .int .i64 0, .int .i64 0]) 5 40 Tryd.underlying24 hi hz0 hz1 hz2 rfl (by omega) (.slice (some ⟨_, 0, none⟩) 0 0) 0 [] (by rfl) (by first | exact World.ownsRow_made wA #[] 0 (Nat.le_refl _) (by decide) rfl | exact (World.ownsRow_made wA #[] 0 (Nat.le_refl _) (by decide) rfl).alloc (.cells #[.int .i64 D.i, .int .i64 D.s, .int .i64 D.w, .int .i64 D.g, .int .i64 D.p] 34) | exact HOR3.out | fail) (some ⟨g, 0, none⟩) k ca (cabs (O.take k)) (by rfl) hlt1 (fun _ => ⟨_, rfl, HS1.out _ (by go_split_ands; assumption)⟩) H1a.out (by unfold maxLen; omega) (by omega) (by first | assumption | (simp; done) | (simp; omega) | fail) ?_; intro v1 wB hown1 hgrow1 hat1; have hzB : wA.heap.size ≤ wB.heap.size := by have h := hgrow1.size; simp at h; omega)
                    | (refine step_append_any _ (by rfl) _ _ _ (by rfl) wA.heap.size 34 i0 (.agg #[.int .i64 0, .int .i64 0, .int .i64 0, .int .i64 0, .int .i64 0]) 5 40 Tryd.underlying24 hi hz0 hz1 hz2 rfl (by omega) v2 _ _ (by rfl) hown2 (some ⟨g, k * 5, none⟩) 0 (ca - k) (cabs (O.drop k)) (by rfl) hld (HS3.out _ (by go_split_ands; assumption)) H1b.out (by unfold maxLen; omega) (by omega) (by first | assumption | (simp; done) | (simp; omega) | fail) ?_; have hown2' := hown2; intro v3 wD hown3 hgrow3 hat3; have hzD : wA.heap.size ≤ wD.heap.size := by have h := hgrow3.size; omega)
                    | (refine step_append_any _ (by rfl) _ _ _ (by rfl) wA.heap.size 34 i0 (.agg #[.int .i64 0, .int .i64 0, .int .i64 0, .int .i64 0, .int .i64 0]) 5 40 Tryd.underlying24 hi hz0 hz1 hz2 rfl (by omega) v1 _ _ (by rfl) (by first | exact hown1 | exact hown1.alloc _ | fail) _ 1 1 [.int .i64 D.i, .int .i64 D.s, .int .i64 D.w, .int .i64 D.g, .int .i64 D.p] (by rfl) rfl (fun _ => ⟨_, rfl, World.news_of_block (cs := #[.int .i64 D.i, .int .i64 D.s, .int .i64 D.w, .int .i64 D.g, .int .i64 D.p]) (t := 34) (fr := (0, 0)) (by first
                        | exact (hgrow1.block (wA.heap.size + 1) (by simp) (by simp [Value.ownBlock])).trans HP2.out
                        | exact (hgrow1.block wA.heap.size (by simp <;> omega) (by simp [Value.ownBlock])).trans HP3.out
                        | exact heap_alloc_new wB _
                        | fail)⟩) (by simp [Value.oneCell']) (by unfold maxLen; omega) (by omega) (by first | assumption | (simp; done) | (simp; omega) | fail) ?_; have hown1' := hown1; intro v2 wC hown2 hgrow2 hat2; have hzC : wA.heap.size ≤ wC.heap.size := by have h := hgrow2.size; first | omega | (simp at h; omega))
                    | fail)
                all_goals have hBD : Below wA.heap.size wA wD := by go_split_ands; assumption
                all_goals have HTD : Hid (Below w.heap.size w wD) := Lib.hid (HTA.out.trans (hBD.mono (by omega)))
                all_goals have HNN : Hid (v3.ownBlock ≠ none) := Lib.hid (own_three hat1 hat2 hat3)
                all_goals have HO3 : Hid (wD.ownsRow w.heap.size 34 5 v3 (k + 1) (cabs (ordK true l (k + 1)))) := Lib.hid (by
                  have hl : k + 1 = 0 + k + 1 + 0 := by omega
                  have hx : cabs (ordK true l (k + 1)) = [] ++ cabs (O.take k) ++ [.int .i64 D.i, .int .i64 D.s, .int .i64 D.w, .int .i64 D.g, .int .i64 D.p] ++ cabs (O.drop k) := by rw [HNX.out _ HPK.out, cabs_append, cabs_append, cabs_one]; simp only [List.nil_append, List.append_assoc]
                  rw [hx, hl]
                  exact own_mono hown3 (by omega))
                all_goals clear hown3 hown2 hown1 hgrow1 hgrow2 hgrow3 hat1 hat2 hat3
                all_goals go_wp2
                all_goals go_roundw
                all_goals first
                  | (case rel => exact ⟨k + 1, by omega, by go_num, HO3.out, HNN, HTD⟩)
                  | skip
                all_goals first
                  | (case measure => simp [intOf]; omega)
                  | skip
            · have hca : ¬ ca = k := by omega
              have t4 : decide ((0 : Int) < ((j - k : Nat) : Int)) = true := by simp; omega
              have t6 : decide (k < j) = true := by simp; omega
              have t7 : decide (0 < j - k) = true := by simp; omega
              have t8 : decide ((k : Int) < (j : Int)) = true := by simp; omega
              have t9 : 0 < j - k := by omega
              go_wp2_with fail
              have HKS : Hid (∀ W, Below wA.heap.size wA W → Below wA.heap.size wA W ∧ W.cell? ⟨a, oa + j * 5, none⟩ = some (.int .i64 D.i) ∧ W.cell? ⟨a, oa + j * 5 + 1, none⟩ = some (.int .i64 D.s) ∧ W.cell? ⟨a, oa + j * 5 + 2, none⟩ = some (.int .i64 D.w) ∧ W.cell? ⟨a, oa + j * 5 + 3, none⟩ = some (.int .i64 D.g) ∧ W.cell? ⟨a, oa + j * 5 + 4, none⟩ = some (.int .i64 D.p)) := Lib.hid (fun W h => ⟨h, HXA.out W h⟩)
              have HS1 : Hid (∀ W, Below wA.heap.size wA W → ∀ z u, (cabs (O.take k))[z]? = some u → W.cell? ((⟨g, 0, none⟩ : Addr).add z) = some u) := Lib.hid (fun W h z u hu => (h.cell (by rw [gs_addr]; show g < _; omega)).trans (HOA.out.cells (g := g) rfl z u (by
                have e : cabs O = cabs (O.take k) ++ cabs (O.drop k) := by rw [← cabs_append, List.take_append_drop]
                rw [e, List.getElem?_append_left (List.getElem?_eq_some_iff.1 hu).1]; exact hu)))
              have HS3 : Hid (∀ W, Below wA.heap.size wA W → 0 < (j - k) → ∃ ad : Addr, ((some ⟨g, k * 5, none⟩) : Option Addr) = some ad ∧ ∀ z u, (cabs (O.drop k))[z]? = some u → W.cell? (ad.add z) = some u) := Lib.hid (fun W h hrn => ⟨⟨g, k * 5, none⟩, rfl, fun z u hu => by
                have h1 := HOA.out.cells (g := g) rfl (k * 5 + z) u (by
                  have e : cabs O = cabs (O.take k) ++ cabs (O.drop k) := by rw [← cabs_append, List.take_append_drop]
                  have hl : (cabs (O.take k)).length = k * 5 := cabs_take_len O _ (by rw [HOL.out]; omega)
                  rw [e, List.getElem?_append_right (by omega), hl, Nat.add_sub_cancel_left]; exact hu)
                rw [gs_addr] at h1 ⊢
                rw [h.cell (by show g < _; omega)]
                simpa using h1⟩)
              have hlt1 : (cabs (O.take k)).length = k * 5 := cabs_take_len O k (by rw [HOL.out]; omega)
              have hld : (cabs (O.drop k)).length = (j - k) * 5 := by rw [cabs_len, List.length_drop, HOL.out] <;> first | done | (congr 1 <;> omega)
              have HP2 : Hid (((wA.alloc (.cells #[] 34)).alloc (.cells #[.int .i64 D.i, .int .i64 D.s, .int .i64 D.w, .int .i64 D.g, .int .i64 D.p] 34)).heap[wA.heap.size + 1]? = some (.cells #[.int .i64 D.i, .int .i64 D.s, .int .i64 D.w, .int .i64 D.g, .int .i64 D.p] 34)) := Lib.hid (by simpa using heap_alloc_new (wA.alloc (.cells #[] 34)) (.cells #[.int .i64 D.i, .int .i64 D.s, .int .i64 D.w, .int .i64 D.g, .int .i64 D.p] 34))
              have HP3 : Hid (((wA.alloc (.cells #[.int .i64 D.i, .int .i64 D.s, .int .i64 D.w, .int .i64 D.g, .int .i64 D.p] 34)).alloc (.cells #[] 34)).heap[wA.heap.size]? = some (.cells #[.int .i64 D.i, .int .i64 D.s, .int .i64 D.w, .int .i64 D.g, .int .i64 D.p] 34)) := Lib.hid ((heap_alloc_old (wA.alloc (.cells #[.int .i64 D.i, .int .i64 D.s, .int .i64 D.w, .int .i64 D.g, .int .i64 D.p] 34)) _ (by simp)).trans (heap_alloc_new wA _))
              have HOR3 : Hid (((wA.alloc (.cells #[.int .i64 D.i, .int .i64 D.s, .int .i64 D.w, .int .i64 D.g, .int .i64 D.p] 34)).alloc (.cells #[] 34)).ownsRow wA.heap.size 34 5 (.slice (some ⟨wA.heap.size + 1, 0, none⟩) 0 0) 0 []) := Lib.hid (by
                have h := World.ownsRow_made (wA.alloc (.cells #[.int .i64 D.i, .int .i64 D.s, .int .i64 D.w, .int .i64 D.g, .int .i64 D.p] 34)) #[] 0 (base := wA.heap.size) (e := 34) (size := 5) (by simp) (by decide) rfl
                rw [show (wA.alloc (.cells #[.int .i64 D.i, .int .i64 D.s, .int .i64 D.w, .int .i64 D.g, .int .i64 D.p] 34)).heap.size = wA.heap.size + 1 by simp] at h
                exact h)
              have H1a := Lib.hid (cabs_one_cell (O.take k))
              have H1b := Lib.hid (cabs_one_cell (O.drop k))
              go_region_held3 (fun w' => Below wA.heap.size wA w' ∧ w'.cell? ⟨a, oa + j * 5, none⟩ = some (.int .i64 D.i) ∧ w'.cell? ⟨a, oa + j * 5 + 1, none⟩ = some (.int .i64 D.s) ∧ w'.cell? ⟨a, oa + j * 5 + 2, none⟩ = some (.int .i64 D.w) ∧ w'.cell? ⟨a, oa + j * 5 + 3, none⟩ = some (.int .i64 D.g) ∧ w'.cell? ⟨a, oa + j * 5 + 4, none⟩ = some (.int .i64 D.p))
                (exact HKS.out _ (by (first
                  | exact (Below.refl _ _).drew
                  | exact Below.refl _ _
                  | exact (Below.refl _ _).alloc (Nat.le_refl _) _
                  | exact ((Below.refl _ _).alloc (Nat.le_refl _) _).drew
                  | exact (((Below.refl _ _).alloc (Nat.le_refl _) _).alloc (by simp) _).drew
                  | exact ((Below.refl _ _).alloc (Nat.le_refl _) _).alloc (by simp) _
                  | (go_split_ands; refine Below.grown ?_ hgrow3 (Below.size (B := wA.heap.size) ?_) (fun y hy => (hown2'.lt y hy).1) <;> assumption)
                  | (go_split_ands; refine Below.grown ?_ hgrow2 (Below.size (B := wA.heap.size) ?_) (fun y hy => (hown1'.lt y hy).1) <;> assumption)
                  | (go_split_ands; refine Below.alloc ?_ (Below.size (B := wA.heap.size) ?_) _ <;> assumption)
                  | (go_split_ands; refine Below.drew ?_; refine Below.alloc ?_ (Below.size (B := wA.heap.size) ?_) _ <;> assumption)
                  | (go_split_ands; refine Below.grown ?_ hgrow1 (Below.size (B := wA.heap.size) ?_) (fun y hy => by simp [Value.ownBlock] at hy; omega) <;> assumption))))
                (first
                  | (refine step_append_any _ (by rfl) _ _ _ (by rfl) wA.heap.size 34 i0 (.agg #[.int .i64 0, .int .i64 0, .int .i64 0, .int .i64 0, .int .i64 0]) 5 40 Tryd.underlying24 hi hz0 hz1 hz2 rfl (by omega) (.slice (some ⟨_, 0, none⟩) 0 0) 0 [] (by rfl) (by first | exact World.ownsRow_made wA #[] 0 (Nat.le_refl _) (by decide) rfl | exact (World.ownsRow_made wA #[] 0 (Nat.le_refl _) (by decide) rfl).alloc (.cells #[.int .i64 D.i, .int .i64 D.s, .int .i64 D.w, .int .i64 D.g, .int .i64 D.p] 34) | exact HOR3.out | fail) (some ⟨g, 0, none⟩) k ca (cabs (O.take k)) (by rfl) hlt1 (fun _ => ⟨_, rfl, HS1.out _ (by go_split_ands; assumption)⟩) H1a.out (by unfold maxLen; omega) (by omega) (by first | assumption | (simp; done) | (simp; omega) | fail) ?_; intro v1 wB hown1 hgrow1 hat1; have hzB : wA.heap.size ≤ wB.heap.size := by have h := hgrow1.size; simp at h; omega)
                  | (refine step_append_any _ (by rfl) _ _ _ (by rfl) wA.heap.size 34 i0 (.agg #[.int .i64 0, .int .i64 0, .int .i64 0, .int .i64 0, .int .i64 0]) 5 40 Tryd.underlying24 hi hz0 hz1 hz2 rfl (by omega) v2 _ _ (by rfl) hown2 (some ⟨g, k * 5, none⟩) (j - k) (ca - k) (cabs (O.drop k)) (by rfl) hld (HS3.out _ (by go_split_ands; assumption)) H1b.out (by unfold maxLen; omega) (by omega) (by first | assumption | (simp; done) | (simp; omega) | fail) ?_; have hown2' := hown2; intro v3 wD hown3 hgrow3 hat3; have hzD : wA.heap.size ≤ wD.heap.size := by have h := hgrow3.size; omega)
                  | (refine step_append_any _ (by rfl) _ _ _ (by rfl) wA.heap.size 34 i0 (.agg #[.int .i64 0, .int .i64 0, .int .i64 0, .int .i64 0, .int .i64 0]) 5 40 Tryd.underlying24 hi hz0 hz1 hz2 rfl (by omega) v1 _ _ (by rfl) (by first | exact hown1 | exact hown1.alloc _ | fail) _ 1 1 [.int .i64 D.i, .int .i64 D.s, .int .i64 D.w, .int .i64 D.g, .int .i64 D.p] (by rfl) rfl (fun _ => ⟨_, rfl, World.news_of_block (cs := #[.int .i64 D.i, .int .i64 D.s, .int .i64 D.w, .int .i64 D.g, .int .i64 D.p]) (t := 34) (fr := (0, 0)) (by first
                      | exact (hgrow1.block (wA.heap.size + 1) (by simp) (by simp [Value.ownBlock])).trans HP2.out
                      | exact (hgrow1.block wA.heap.size (by simp <;> omega) (by simp [Value.ownBlock])).trans HP3.out
                      | exact heap_alloc_new wB _
                      | fail)⟩) (by simp [Value.oneCell']) (by unfold maxLen; omega) (by omega) (by first | assumption | (simp; done) | (simp; omega) | fail) ?_; have hown1' := hown1; intro v2 wC hown2 hgrow2 hat2; have hzC : wA.heap.size ≤ wC.heap.size := by have h := hgrow2.size; first | omega | (simp at h; omega))
                  | fail)
              all_goals have hBD : Below wA.heap.size wA wD := by go_split_ands; assumption
              all_goals have HTD : Hid (Below w.heap.size w wD) := Lib.hid (HTA.out.trans (hBD.mono (by omega)))
              all_goals have HNN : Hid (v3.ownBlock ≠ none) := Lib.hid (own_three hat1 hat2 hat3)
              all_goals have HO3 : Hid (wD.ownsRow w.heap.size 34 5 v3 (j + 1) (cabs (ordK true l (j + 1)))) := Lib.hid (by
                have hl : j + 1 = 0 + k + 1 + (j - k) := by omega
                have hx : cabs (ordK true l (j + 1)) = [] ++ cabs (O.take k) ++ [.int .i64 D.i, .int .i64 D.s, .int .i64 D.w, .int .i64 D.g, .int .i64 D.p] ++ cabs (O.drop k) := by rw [HNX.out _ HPK.out, cabs_append, cabs_append, cabs_one]; simp only [List.nil_append, List.append_assoc]
                rw [hx, hl]
                exact own_mono hown3 (by omega))
              all_goals clear hown3 hown2 hown1 hgrow1 hgrow2 hgrow3 hat1 hat2 hat3
              all_goals go_wp2
              all_goals go_roundw
              all_goals first
                | (case rel => exact ⟨j + 1, by omega, by go_num, HO3.out, HNN, HTD⟩)
                | skip
              all_goals first
                | (case measure => simp [intOf]; omega)
                | skip
    · obtain rfl : j = l.length := by omega
      go_wp2
      go_ret
      exact ⟨_, rfl, hown, hbel.out⟩
end Go.Proofs.YtiogjocbiagipabDoor
