/- spec.l1Put: a number laid into a rising row that has it not. Condition: at most twelve. -/
import Derived.Test.YtkjdkfoeolcnkaaProfK
import Derived.Test.YtkjdkfoeolcnkaaAppAny
import Derived.Deep.RegionHeld3
import Derived.StillTailTactics
namespace Go.Proofs.Ytkjdkfoeolcnkaa
open Go.RowKit
set_option linter.unusedVariables false
theorem own_threeP {h0 h1 h2 : Nat} {g : Nat} {v1 v2 v3 : Value} {c0 : Nat} (a1 : v1.ownBlock = (Value.slice (some ⟨g, 0, none⟩) 0 c0).ownBlock ∨ v1.ownBlock = some h0) (a2 : v2.ownBlock = v1.ownBlock ∨ v2.ownBlock = some h1) (a3 : v3.ownBlock = v2.ownBlock ∨ v3.ownBlock = some h2) : v3.ownBlock ≠ none := by
  have e1 : v1.ownBlock ≠ none := by rcases a1 with h | h <;> rw [h] <;> simp [Value.ownBlock]
  have e2 : v2.ownBlock ≠ none := by rcases a2 with h | h <;> rw [h]; exact e1; simp
  rcases a3 with h | h <;> rw [h]
  · exact e2
  · simp
theorem intVs_append (a b : List Int) : intVs (a ++ b) = intVs a ++ intVs b := by simp [intVs]
theorem intVs_cell (a : List Int) : ∀ v ∈ intVs a, v.oneCell' = true := by
  intro v hv
  obtain ⟨x, _, rfl⟩ := List.mem_map.1 hv
  rfl
/-- What laying n into q leaves. -/
def PutR (q : List Int) (n : Int) (w : World) (e : Ending) (w' : World) : Prop :=
  ∃ g, e = .returned g ∧ ∃ k, k ≤ q.length ∧ (∀ i, i < k → gth q i < n) ∧ (k < q.length → n ≤ gth q k) ∧ w'.ownsRow w.heap.size 3 1 g (q.length + 1) (intVs (q.take k ++ [n] ++ q.drop k)) ∧ g.ownBlock ≠ none ∧ Below w.heap.size w w'
set_option maxRecDepth 100000 in
set_option maxHeartbeats 8000000 in
theorem l1Put_c (v : Value) (O : List Int) (n : Int) (j : Nat) (w : World) (B : Nat) (hj : O.length = j) (ho : w.ownsRow B 3 1 v j (intVs O)) (hnn : v.ownBlock ≠ none) (hn : j ≤ 12) (hd : n ∉ O) :
    Calls Try.prog 86 #[v, .int .i64 n] w (PutR O n w) := by
  obtain ⟨i0, hi, hz0, hz1, hz2⟩ := info_parts Try.infoIntR
  rcases own_form ho with ⟨h0, rfl⟩ | ⟨g, ca, rfl, hBg, hgw, hnc, hcm⟩
  · exact absurd rfl hnn
  · have HOL := Lib.hid hj
    have HC : Hid (∀ i, i < j → w.cell? ⟨g, i, none⟩ = some (.int .i64 (gth O i))) := Lib.hid (fun i h => (ho.cellAt i (by omega)).trans (int_at (by omega)))
    have HOO := Lib.hid ho
    have HND := Lib.hid hd
    clear ho hj hd
    go_enter Try.func86, Try.ntmps86
    go_wp2
    go_loopw [5] (fun kk wr => ∃ k : Nat, k ≤ j ∧ kk = .int .i64 k ∧ wr = w ∧ Hid (∀ i, i < k → gth O i < n)) (fun kk _ => j - (intOf kk).toNat)
    case atStart => exact ⟨0, by omega, rfl, (by first | rfl | trivial), Lib.hid (fun i h => by omega)⟩
    case round =>
      obtain ⟨k, hkj, rfl, rfl, hlo⟩ := hrel
      by_cases hlt : k < j
      · have c0 := HC.out k hlt
        have hne : gth O k ≠ n := fun e => HND.out (by rw [← e]; exact gth_mem (by rw [HOL.out]; exact hlt))
        by_cases hc : gth O k < n
        · have HLO : Hid (∀ i, i < k + 1 → gth O i < n) := Lib.hid (fun i h => by
            by_cases e : i = k
            · subst e; exact hc
            · exact hlo.out i (by omega))
          have t1 : decide (gth O k < n) = true := by simpa using hc
          clear hc hne
          generalize gth O k = E at *
          go_wp2
          go_roundw
          case rel => exact ⟨k + 1, by omega, by go_num, (by first | rfl | trivial), HLO⟩
          case measure => simp [intOf]; omega
        · have HLO := hlo
          have HHI : Hid (k < O.length → n ≤ gth O k) := Lib.hid (fun _ => by omega)
          have t1 : decide (gth O k < n) = false := by simpa using hc
          have t2 : (gth O k == n) = false := by simpa using hne
          have HEK : Hid (gth O k = gth O k) := Lib.hid rfl
          clear hc hne
          generalize hE : gth O k = E at t1 t2 c0
          clear hE
          have HOA := HOO
          have hgA : g < wr.heap.size := hgw
          have hb1 : (0 : Int) ≤ (k : Int) := by omega
          have hb2 : (k : Int) ≤ (ca : Int) := by omega
          have hb3 : (k : Int) ≤ (j : Int) := by omega
          have hca : ¬ ca = k := by omega
          have t4 : decide ((0 : Int) < ((j - k : Nat) : Int)) = true := by simp; omega
          have t6 : decide (k < j) = true := by simp; omega
          have t7 : decide (0 < j - k) = true := by simp; omega
          have t8 : decide ((k : Int) < (j : Int)) = true := by simp; omega
          have t9 : 0 < j - k := by omega
          go_wp2_with fail
          have HKS : Hid (∀ W, Below wr.heap.size wr W → Below wr.heap.size wr W ∧ True) := Lib.hid (fun W h => ⟨h, trivial⟩)
          have HS1 : Hid (∀ W, Below wr.heap.size wr W → ∀ z u, (intVs (O.take k))[z]? = some u → W.cell? ((⟨g, 0, none⟩ : Addr).add z) = some u) := Lib.hid (fun W h z u hu => (h.cell (by rw [gs_addr]; show g < _; omega)).trans (HOA.out.cells (g := g) rfl z u (by
            have e : intVs O = intVs (O.take k) ++ intVs (O.drop k) := by rw [← intVs_append, List.take_append_drop]
            rw [e, List.getElem?_append_left (List.getElem?_eq_some_iff.1 hu).1]; exact hu)))
          have HS3 : Hid (∀ W, Below wr.heap.size wr W → 0 < (j - k) → ∃ ad : Addr, ((some ⟨g, k, none⟩) : Option Addr) = some ad ∧ ∀ z u, (intVs (O.drop k))[z]? = some u → W.cell? (ad.add z) = some u) := Lib.hid (fun W h hrn => ⟨⟨g, k, none⟩, rfl, fun z u hu => by
            have h1 := HOA.out.cells (g := g) rfl (k + z) u (by
              have e : intVs O = intVs (O.take k) ++ intVs (O.drop k) := by rw [← intVs_append, List.take_append_drop]
              have hl : (intVs (O.take k)).length = k := by simp [HOL.out] <;> omega
              rw [e, List.getElem?_append_right (by omega), hl, Nat.add_sub_cancel_left]; exact hu)
            rw [gs_addr] at h1 ⊢
            rw [h.cell (by show g < _; omega)]
            simpa using h1⟩)
          have hlt1 : (intVs (O.take k)).length = k * 1 := by simp [HOL.out] <;> omega
          have hld : (intVs (O.drop k)).length = (j - k) * 1 := by simp [HOL.out] <;> omega
          have HP2 : Hid (((wr.alloc (.cells #[] 3)).alloc (.cells #[.int .i64 n] 3)).heap[wr.heap.size + 1]? = some (.cells #[.int .i64 n] 3)) := Lib.hid (by simpa using heap_alloc_new (wr.alloc (.cells #[] 3)) (.cells #[.int .i64 n] 3))
          have HP3 : Hid (((wr.alloc (.cells #[.int .i64 n] 3)).alloc (.cells #[] 3)).heap[wr.heap.size]? = some (.cells #[.int .i64 n] 3)) := Lib.hid ((heap_alloc_old (wr.alloc (.cells #[.int .i64 n] 3)) _ (by simp)).trans (heap_alloc_new wr _))
          have HOR3 : Hid (((wr.alloc (.cells #[.int .i64 n] 3)).alloc (.cells #[] 3)).ownsRow wr.heap.size 3 1 (.slice (some ⟨wr.heap.size + 1, 0, none⟩) 0 0) 0 []) := Lib.hid (by
            have h := World.ownsRow_made (wr.alloc (.cells #[.int .i64 n] 3)) #[] 0 (base := wr.heap.size) (e := 3) (size := 1) (by simp) (by decide) rfl
            rw [show (wr.alloc (.cells #[.int .i64 n] 3)).heap.size = wr.heap.size + 1 by simp] at h
            exact h)
          have H1a := Lib.hid (intVs_cell (O.take k))
          have H1b := Lib.hid (intVs_cell (O.drop k))
          go_region_held3 (fun w' => Below wr.heap.size wr w' ∧ True)
            (exact HKS.out _ (by (first
              | exact (Below.refl _ _).drew
              | exact Below.refl _ _
              | exact (Below.refl _ _).alloc (Nat.le_refl _) _
              | exact ((Below.refl _ _).alloc (Nat.le_refl _) _).drew
              | exact (((Below.refl _ _).alloc (Nat.le_refl _) _).alloc (by simp) _).drew
              | exact ((Below.refl _ _).alloc (Nat.le_refl _) _).alloc (by simp) _
              | (go_split_ands; refine Below.grown ?_ hgrow3 (Below.size (B := wr.heap.size) ?_) (fun y hy => (hown2'.lt y hy).1) <;> assumption)
              | (go_split_ands; refine Below.grown ?_ hgrow2 (Below.size (B := wr.heap.size) ?_) (fun y hy => (hown1'.lt y hy).1) <;> assumption)
              | (go_split_ands; refine Below.alloc ?_ (Below.size (B := wr.heap.size) ?_) _ <;> assumption)
              | (go_split_ands; refine Below.drew ?_; refine Below.alloc ?_ (Below.size (B := wr.heap.size) ?_) _ <;> assumption)
              | (go_split_ands; refine Below.grown ?_ hgrow1 (Below.size (B := wr.heap.size) ?_) (fun y hy => by simp [Value.ownBlock] at hy; omega) <;> assumption))))
            (first
              | (refine step_append_any _ (by rfl) _ _ _ (by rfl) wr.heap.size 3 i0 (.int .i64 0) 1 8 Try.underlying31 hi hz0 hz1 hz2 rfl (by omega) (.slice (some ⟨_, 0, none⟩) 0 0) 0 [] (by rfl) (by first | exact World.ownsRow_made wr #[] 0 (Nat.le_refl _) (by decide) rfl | exact (World.ownsRow_made wr #[] 0 (Nat.le_refl _) (by decide) rfl).alloc (.cells #[.int .i64 n] 3) | exact HOR3.out | fail) (some ⟨g, 0, none⟩) k ca (intVs (O.take k)) (by rfl) hlt1 (fun _ => ⟨_, rfl, HS1.out _ (by go_split_ands; assumption)⟩) H1a.out (by unfold maxLen; omega) (by omega) (by first | assumption | (simp; done) | (simp; omega) | fail) ?_; intro v1 wB hown1 hgrow1 hat1; have hzB : wr.heap.size ≤ wB.heap.size := by have h := hgrow1.size; simp at h; omega)
              | (refine step_append_any _ (by rfl) _ _ _ (by rfl) wr.heap.size 3 i0 (.int .i64 0) 1 8 Try.underlying31 hi hz0 hz1 hz2 rfl (by omega) v2 _ _ (by rfl) hown2 (some ⟨g, k, none⟩) (j - k) (ca - k) (intVs (O.drop k)) (by rfl) hld (HS3.out _ (by go_split_ands; assumption)) H1b.out (by unfold maxLen; omega) (by omega) (by first | assumption | (simp; done) | (simp; omega) | fail) ?_; have hown2' := hown2; intro v3 wD hown3 hgrow3 hat3; have hzD : wr.heap.size ≤ wD.heap.size := by have h := hgrow3.size; omega)
              | (refine step_append_any _ (by rfl) _ _ _ (by rfl) wr.heap.size 3 i0 (.int .i64 0) 1 8 Try.underlying31 hi hz0 hz1 hz2 rfl (by omega) v1 _ _ (by rfl) (by first | exact hown1 | exact hown1.alloc _ | fail) _ 1 1 [.int .i64 n] (by rfl) rfl (fun _ => ⟨_, rfl, World.news_of_block (cs := #[.int .i64 n]) (t := 3) (fr := (0, 0)) (by first
                  | exact (hgrow1.block (wr.heap.size + 1) (by simp) (by simp [Value.ownBlock])).trans HP2.out
                  | exact (hgrow1.block wr.heap.size (by simp <;> omega) (by simp [Value.ownBlock])).trans HP3.out
                  | exact heap_alloc_new wB _
                  | fail)⟩) (by simp [Value.oneCell']) (by unfold maxLen; omega) (by omega) (by first | assumption | (simp; done) | (simp; omega) | fail) ?_; have hown1' := hown1; intro v2 wC hown2 hgrow2 hat2; have hzC : wr.heap.size ≤ wC.heap.size := by have h := hgrow2.size; first | omega | (simp at h; omega))
              | fail)
          all_goals have hBD : Hid (Below wr.heap.size wr wD) := Lib.hid (by go_split_ands; assumption)
          all_goals have HNN : Hid (v3.ownBlock ≠ none) := Lib.hid (own_threeP hat1 hat2 hat3)
          all_goals have HO3 : Hid (wD.ownsRow wr.heap.size 3 1 v3 (j + 1) (intVs (O.take k ++ [n] ++ O.drop k))) := Lib.hid (by
            have hl : j + 1 = 0 + k + 1 + (j - k) := by omega
            have hx : intVs (O.take k ++ [n] ++ O.drop k) = [] ++ intVs (O.take k) ++ [.int .i64 n] ++ intVs (O.drop k) := by rw [intVs_append, intVs_append]; simp [intVs]
            rw [hx, hl]
            exact hown3)
          all_goals clear hown3 hown2 hown1 hgrow1 hgrow2 hgrow3 hat1 hat2 hat3
          all_goals go_wp2
          all_goals go_ret
          all_goals exact ⟨v3, rfl, k, by rw [HOL.out]; omega, HLO.out, HHI.out, by rw [HOL.out]; exact HO3.out, HNN.out, hBD.out⟩
      · have HLO := hlo
        have HHI : Hid (k < O.length → n ≤ gth O k) := Lib.hid (fun h => by rw [HOL.out] at h; omega)
        have HEND : Hid (k = j) := Lib.hid (by omega)
        have HOA := HOO
        have hgA : g < wr.heap.size := hgw
        have hb1 : (0 : Int) ≤ (k : Int) := by omega
        have hb2 : (k : Int) ≤ (ca : Int) := by omega
        have hb3 : (k : Int) ≤ (j : Int) := by omega
        by_cases hkj2 : k = j
        · subst hkj2
          by_cases hca : ca = k
          · subst hca
            go_wp2_with fail
            have HKS : Hid (∀ W, Below wr.heap.size wr W → Below wr.heap.size wr W ∧ True) := Lib.hid (fun W h => ⟨h, trivial⟩)
            have HS1 : Hid (∀ W, Below wr.heap.size wr W → ∀ z u, (intVs (O.take ca))[z]? = some u → W.cell? ((⟨g, 0, none⟩ : Addr).add z) = some u) := Lib.hid (fun W h z u hu => (h.cell (by rw [gs_addr]; show g < _; omega)).trans (HOA.out.cells (g := g) rfl z u (by
              have e : intVs O = intVs (O.take ca) ++ intVs (O.drop ca) := by rw [← intVs_append, List.take_append_drop]
              rw [e, List.getElem?_append_left (List.getElem?_eq_some_iff.1 hu).1]; exact hu)))
            have HS3 : Hid (∀ W, Below wr.heap.size wr W → 0 < 0 → ∃ ad : Addr, ((some ⟨g, 0, none⟩) : Option Addr) = some ad ∧ ∀ z u, (intVs (O.drop ca))[z]? = some u → W.cell? (ad.add z) = some u) := Lib.hid (fun W h hrn => ⟨⟨g, ca, none⟩, by omega, fun z u hu => by
              have h1 := HOA.out.cells (g := g) rfl (ca + z) u (by
                have e : intVs O = intVs (O.take ca) ++ intVs (O.drop ca) := by rw [← intVs_append, List.take_append_drop]
                have hl : (intVs (O.take ca)).length = ca := by simp [HOL.out] <;> omega
                rw [e, List.getElem?_append_right (by omega), hl, Nat.add_sub_cancel_left]; exact hu)
              rw [gs_addr] at h1 ⊢
              rw [h.cell (by show g < _; omega)]
              simpa using h1⟩)
            have hlt1 : (intVs (O.take ca)).length = ca * 1 := by simp [HOL.out] <;> omega
            have hld : (intVs (O.drop ca)).length = 0 * 1 := by simp [HOL.out] <;> omega
            have HP2 : Hid (((wr.alloc (.cells #[] 3)).alloc (.cells #[.int .i64 n] 3)).heap[wr.heap.size + 1]? = some (.cells #[.int .i64 n] 3)) := Lib.hid (by simpa using heap_alloc_new (wr.alloc (.cells #[] 3)) (.cells #[.int .i64 n] 3))
            have HP3 : Hid (((wr.alloc (.cells #[.int .i64 n] 3)).alloc (.cells #[] 3)).heap[wr.heap.size]? = some (.cells #[.int .i64 n] 3)) := Lib.hid ((heap_alloc_old (wr.alloc (.cells #[.int .i64 n] 3)) _ (by simp)).trans (heap_alloc_new wr _))
            have HOR3 : Hid (((wr.alloc (.cells #[.int .i64 n] 3)).alloc (.cells #[] 3)).ownsRow wr.heap.size 3 1 (.slice (some ⟨wr.heap.size + 1, 0, none⟩) 0 0) 0 []) := Lib.hid (by
              have h := World.ownsRow_made (wr.alloc (.cells #[.int .i64 n] 3)) #[] 0 (base := wr.heap.size) (e := 3) (size := 1) (by simp) (by decide) rfl
              rw [show (wr.alloc (.cells #[.int .i64 n] 3)).heap.size = wr.heap.size + 1 by simp] at h
              exact h)
            have H1a := Lib.hid (intVs_cell (O.take ca))
            have H1b := Lib.hid (intVs_cell (O.drop ca))
            go_region_held3 (fun w' => Below wr.heap.size wr w' ∧ True)
              (exact HKS.out _ (by (first
                | exact (Below.refl _ _).drew
                | exact Below.refl _ _
                | exact (Below.refl _ _).alloc (Nat.le_refl _) _
                | exact ((Below.refl _ _).alloc (Nat.le_refl _) _).drew
                | exact (((Below.refl _ _).alloc (Nat.le_refl _) _).alloc (by simp) _).drew
                | exact ((Below.refl _ _).alloc (Nat.le_refl _) _).alloc (by simp) _
                | (go_split_ands; refine Below.grown ?_ hgrow3 (Below.size (B := wr.heap.size) ?_) (fun y hy => (hown2'.lt y hy).1) <;> assumption)
                | (go_split_ands; refine Below.grown ?_ hgrow2 (Below.size (B := wr.heap.size) ?_) (fun y hy => (hown1'.lt y hy).1) <;> assumption)
                | (go_split_ands; refine Below.alloc ?_ (Below.size (B := wr.heap.size) ?_) _ <;> assumption)
                | (go_split_ands; refine Below.drew ?_; refine Below.alloc ?_ (Below.size (B := wr.heap.size) ?_) _ <;> assumption)
                | (go_split_ands; refine Below.grown ?_ hgrow1 (Below.size (B := wr.heap.size) ?_) (fun y hy => by simp [Value.ownBlock] at hy; omega) <;> assumption))))
              (first
                | (refine step_append_any _ (by rfl) _ _ _ (by rfl) wr.heap.size 3 i0 (.int .i64 0) 1 8 Try.underlying31 hi hz0 hz1 hz2 rfl (by omega) (.slice (some ⟨_, 0, none⟩) 0 0) 0 [] (by rfl) (by first | exact World.ownsRow_made wr #[] 0 (Nat.le_refl _) (by decide) rfl | exact (World.ownsRow_made wr #[] 0 (Nat.le_refl _) (by decide) rfl).alloc (.cells #[.int .i64 n] 3) | exact HOR3.out | fail) (some ⟨g, 0, none⟩) ca ca (intVs (O.take ca)) (by rfl) hlt1 (fun _ => ⟨_, rfl, HS1.out _ (by go_split_ands; assumption)⟩) H1a.out (by unfold maxLen; omega) (by omega) (by first | assumption | (simp; done) | (simp; omega) | fail) ?_; intro v1 wB hown1 hgrow1 hat1; have hzB : wr.heap.size ≤ wB.heap.size := by have h := hgrow1.size; simp at h; omega)
                | (refine step_append_any _ (by rfl) _ _ _ (by rfl) wr.heap.size 3 i0 (.int .i64 0) 1 8 Try.underlying31 hi hz0 hz1 hz2 rfl (by omega) v2 _ _ (by rfl) hown2 (some ⟨g, 0, none⟩) 0 0 (intVs (O.drop ca)) (by rfl) hld (HS3.out _ (by go_split_ands; assumption)) H1b.out (by unfold maxLen; omega) (by omega) (by first | assumption | (simp; done) | (simp; omega) | fail) ?_; have hown2' := hown2; intro v3 wD hown3 hgrow3 hat3; have hzD : wr.heap.size ≤ wD.heap.size := by have h := hgrow3.size; omega)
                | (refine step_append_any _ (by rfl) _ _ _ (by rfl) wr.heap.size 3 i0 (.int .i64 0) 1 8 Try.underlying31 hi hz0 hz1 hz2 rfl (by omega) v1 _ _ (by rfl) (by first | exact hown1 | exact hown1.alloc _ | fail) _ 1 1 [.int .i64 n] (by rfl) rfl (fun _ => ⟨_, rfl, World.news_of_block (cs := #[.int .i64 n]) (t := 3) (fr := (0, 0)) (by first
                    | exact (hgrow1.block (wr.heap.size + 1) (by simp) (by simp [Value.ownBlock])).trans HP2.out
                    | exact (hgrow1.block wr.heap.size (by simp <;> omega) (by simp [Value.ownBlock])).trans HP3.out
                    | exact heap_alloc_new wB _
                    | fail)⟩) (by simp [Value.oneCell']) (by unfold maxLen; omega) (by omega) (by first | assumption | (simp; done) | (simp; omega) | fail) ?_; have hown1' := hown1; intro v2 wC hown2 hgrow2 hat2; have hzC : wr.heap.size ≤ wC.heap.size := by have h := hgrow2.size; first | omega | (simp at h; omega))
                | fail)
            all_goals have hBD : Hid (Below wr.heap.size wr wD) := Lib.hid (by go_split_ands; assumption)
            all_goals have HNN : Hid (v3.ownBlock ≠ none) := Lib.hid (own_threeP hat1 hat2 hat3)
            all_goals have HO3 : Hid (wD.ownsRow wr.heap.size 3 1 v3 (ca + 1) (intVs (O.take ca ++ [n] ++ O.drop ca))) := Lib.hid (by
              have hl : ca + 1 = 0 + ca + 1 + 0 := by omega
              have hx : intVs (O.take ca ++ [n] ++ O.drop ca) = [] ++ intVs (O.take ca) ++ [.int .i64 n] ++ intVs (O.drop ca) := by rw [intVs_append, intVs_append]; simp [intVs]
              rw [hx, hl]
              exact hown3)
            all_goals clear hown3 hown2 hown1 hgrow1 hgrow2 hgrow3 hat1 hat2 hat3
            all_goals go_wp2
            all_goals go_ret
            all_goals exact ⟨v3, rfl, ca, by rw [HOL.out]; omega, HLO.out, HHI.out, by rw [HOL.out]; exact HO3.out, HNN.out, hBD.out⟩
          · skip
            go_wp2_with fail
            have HKS : Hid (∀ W, Below wr.heap.size wr W → Below wr.heap.size wr W ∧ True) := Lib.hid (fun W h => ⟨h, trivial⟩)
            have HS1 : Hid (∀ W, Below wr.heap.size wr W → ∀ z u, (intVs (O.take k))[z]? = some u → W.cell? ((⟨g, 0, none⟩ : Addr).add z) = some u) := Lib.hid (fun W h z u hu => (h.cell (by rw [gs_addr]; show g < _; omega)).trans (HOA.out.cells (g := g) rfl z u (by
              have e : intVs O = intVs (O.take k) ++ intVs (O.drop k) := by rw [← intVs_append, List.take_append_drop]
              rw [e, List.getElem?_append_left (List.getElem?_eq_some_iff.1 hu).1]; exact hu)))
            have HS3 : Hid (∀ W, Below wr.heap.size wr W → 0 < 0 → ∃ ad : Addr, ((some ⟨g, k, none⟩) : Option Addr) = some ad ∧ ∀ z u, (intVs (O.drop k))[z]? = some u → W.cell? (ad.add z) = some u) := Lib.hid (fun W h hrn => ⟨⟨g, k, none⟩, rfl, fun z u hu => by
              have h1 := HOA.out.cells (g := g) rfl (k + z) u (by
                have e : intVs O = intVs (O.take k) ++ intVs (O.drop k) := by rw [← intVs_append, List.take_append_drop]
                have hl : (intVs (O.take k)).length = k := by simp [HOL.out] <;> omega
                rw [e, List.getElem?_append_right (by omega), hl, Nat.add_sub_cancel_left]; exact hu)
              rw [gs_addr] at h1 ⊢
              rw [h.cell (by show g < _; omega)]
              simpa using h1⟩)
            have hlt1 : (intVs (O.take k)).length = k * 1 := by simp [HOL.out] <;> omega
            have hld : (intVs (O.drop k)).length = 0 * 1 := by simp [HOL.out] <;> omega
            have HP2 : Hid (((wr.alloc (.cells #[] 3)).alloc (.cells #[.int .i64 n] 3)).heap[wr.heap.size + 1]? = some (.cells #[.int .i64 n] 3)) := Lib.hid (by simpa using heap_alloc_new (wr.alloc (.cells #[] 3)) (.cells #[.int .i64 n] 3))
            have HP3 : Hid (((wr.alloc (.cells #[.int .i64 n] 3)).alloc (.cells #[] 3)).heap[wr.heap.size]? = some (.cells #[.int .i64 n] 3)) := Lib.hid ((heap_alloc_old (wr.alloc (.cells #[.int .i64 n] 3)) _ (by simp)).trans (heap_alloc_new wr _))
            have HOR3 : Hid (((wr.alloc (.cells #[.int .i64 n] 3)).alloc (.cells #[] 3)).ownsRow wr.heap.size 3 1 (.slice (some ⟨wr.heap.size + 1, 0, none⟩) 0 0) 0 []) := Lib.hid (by
              have h := World.ownsRow_made (wr.alloc (.cells #[.int .i64 n] 3)) #[] 0 (base := wr.heap.size) (e := 3) (size := 1) (by simp) (by decide) rfl
              rw [show (wr.alloc (.cells #[.int .i64 n] 3)).heap.size = wr.heap.size + 1 by simp] at h
              exact h)
            have H1a := Lib.hid (intVs_cell (O.take k))
            have H1b := Lib.hid (intVs_cell (O.drop k))
            go_region_held3 (fun w' => Below wr.heap.size wr w' ∧ True)
              (exact HKS.out _ (by (first
                | exact (Below.refl _ _).drew
                | exact Below.refl _ _
                | exact (Below.refl _ _).alloc (Nat.le_refl _) _
                | exact ((Below.refl _ _).alloc (Nat.le_refl _) _).drew
                | exact (((Below.refl _ _).alloc (Nat.le_refl _) _).alloc (by simp) _).drew
                | exact ((Below.refl _ _).alloc (Nat.le_refl _) _).alloc (by simp) _
                | (go_split_ands; refine Below.grown ?_ hgrow3 (Below.size (B := wr.heap.size) ?_) (fun y hy => (hown2'.lt y hy).1) <;> assumption)
                | (go_split_ands; refine Below.grown ?_ hgrow2 (Below.size (B := wr.heap.size) ?_) (fun y hy => (hown1'.lt y hy).1) <;> assumption)
                | (go_split_ands; refine Below.alloc ?_ (Below.size (B := wr.heap.size) ?_) _ <;> assumption)
                | (go_split_ands; refine Below.drew ?_; refine Below.alloc ?_ (Below.size (B := wr.heap.size) ?_) _ <;> assumption)
                | (go_split_ands; refine Below.grown ?_ hgrow1 (Below.size (B := wr.heap.size) ?_) (fun y hy => by simp [Value.ownBlock] at hy; omega) <;> assumption))))
              (first
                | (refine step_append_any _ (by rfl) _ _ _ (by rfl) wr.heap.size 3 i0 (.int .i64 0) 1 8 Try.underlying31 hi hz0 hz1 hz2 rfl (by omega) (.slice (some ⟨_, 0, none⟩) 0 0) 0 [] (by rfl) (by first | exact World.ownsRow_made wr #[] 0 (Nat.le_refl _) (by decide) rfl | exact (World.ownsRow_made wr #[] 0 (Nat.le_refl _) (by decide) rfl).alloc (.cells #[.int .i64 n] 3) | exact HOR3.out | fail) (some ⟨g, 0, none⟩) k ca (intVs (O.take k)) (by rfl) hlt1 (fun _ => ⟨_, rfl, HS1.out _ (by go_split_ands; assumption)⟩) H1a.out (by unfold maxLen; omega) (by omega) (by first | assumption | (simp; done) | (simp; omega) | fail) ?_; intro v1 wB hown1 hgrow1 hat1; have hzB : wr.heap.size ≤ wB.heap.size := by have h := hgrow1.size; simp at h; omega)
                | (refine step_append_any _ (by rfl) _ _ _ (by rfl) wr.heap.size 3 i0 (.int .i64 0) 1 8 Try.underlying31 hi hz0 hz1 hz2 rfl (by omega) v2 _ _ (by rfl) hown2 (some ⟨g, k, none⟩) 0 (ca - k) (intVs (O.drop k)) (by rfl) hld (HS3.out _ (by go_split_ands; assumption)) H1b.out (by unfold maxLen; omega) (by omega) (by first | assumption | (simp; done) | (simp; omega) | fail) ?_; have hown2' := hown2; intro v3 wD hown3 hgrow3 hat3; have hzD : wr.heap.size ≤ wD.heap.size := by have h := hgrow3.size; omega)
                | (refine step_append_any _ (by rfl) _ _ _ (by rfl) wr.heap.size 3 i0 (.int .i64 0) 1 8 Try.underlying31 hi hz0 hz1 hz2 rfl (by omega) v1 _ _ (by rfl) (by first | exact hown1 | exact hown1.alloc _ | fail) _ 1 1 [.int .i64 n] (by rfl) rfl (fun _ => ⟨_, rfl, World.news_of_block (cs := #[.int .i64 n]) (t := 3) (fr := (0, 0)) (by first
                    | exact (hgrow1.block (wr.heap.size + 1) (by simp) (by simp [Value.ownBlock])).trans HP2.out
                    | exact (hgrow1.block wr.heap.size (by simp <;> omega) (by simp [Value.ownBlock])).trans HP3.out
                    | exact heap_alloc_new wB _
                    | fail)⟩) (by simp [Value.oneCell']) (by unfold maxLen; omega) (by omega) (by first | assumption | (simp; done) | (simp; omega) | fail) ?_; have hown1' := hown1; intro v2 wC hown2 hgrow2 hat2; have hzC : wr.heap.size ≤ wC.heap.size := by have h := hgrow2.size; first | omega | (simp at h; omega))
                | fail)
            all_goals have hBD : Hid (Below wr.heap.size wr wD) := Lib.hid (by go_split_ands; assumption)
            all_goals have HNN : Hid (v3.ownBlock ≠ none) := Lib.hid (own_threeP hat1 hat2 hat3)
            all_goals have HO3 : Hid (wD.ownsRow wr.heap.size 3 1 v3 (k + 1) (intVs (O.take k ++ [n] ++ O.drop k))) := Lib.hid (by
              have hl : k + 1 = 0 + k + 1 + 0 := by omega
              have hx : intVs (O.take k ++ [n] ++ O.drop k) = [] ++ intVs (O.take k) ++ [.int .i64 n] ++ intVs (O.drop k) := by rw [intVs_append, intVs_append]; simp [intVs]
              rw [hx, hl]
              exact hown3)
            all_goals clear hown3 hown2 hown1 hgrow1 hgrow2 hgrow3 hat1 hat2 hat3
            all_goals go_wp2
            all_goals go_ret
            all_goals exact ⟨v3, rfl, k, by rw [HOL.out]; omega, HLO.out, HHI.out, by rw [HOL.out]; exact HO3.out, HNN.out, hBD.out⟩
        · exact absurd HEND.out hkj2
end Go.Proofs.Ytkjdkfoeolcnkaa
