/- What the law FnRopes says, in plain words. No condition. -/
import Derived.Test.YtiogjocbiagipabWorstC
import Derived.Test.YtiogjocbiagipabBrokenC
import Derived.Test.YtiogjocbiagipabLightC
namespace Go.Proofs.Ytiogjocbiagipab
open Go.RowKit
set_option linter.unusedVariables false
theorem ww_law {k : RK} {l : List Dmg} {len : Int} (h : wwOk k l len = true) :
    good k l = true ∧ (1 ≤ len ∧ len ≤ 3000) ∧ Srt l ∧ l.length ≠ 0 ∧ (wwA k l len = (mst l len (-1) l.length).1 ∧ wwM k l len = (mst l len (-1) l.length).2) := by
  have hh := h
  unfold wwOk at h
  rw [Bool.and_eq_true, Bool.and_eq_true, inR_iff] at h
  have hg := h.1.1
  refine ⟨hg, h.1.2, (good_yes hg).srt, ?_, ?_⟩
  · intro e
    rw [e] at h
    simp at h
  · simp [wwA, wwM, hh]
theorem ww_pt {l : List Dmg} {len : Int} (hs : Srt l) {i : Nat} (hi : i < l.length) :
    brk l (gth l i).a len (-1) ≤ (mst l len (-1) l.length).2 ∧ ((gth l i).a = (mst l len (-1) l.length).1 → brk l (gth l i).a len (-1) = (mst l len (-1) l.length).2) := by
  have h1 := mst_ge l len (-1) l.length i hi
  refine ⟨h1, fun e => ?_⟩
  have h2 := brk_bd hs (gth l i).a len (-1)
  rcases mst_is l len (-1) l.length with h | ⟨j, hj, h3, h4⟩
  · omega
  · rw [h3, e, h4]
theorem bw_at {k : RK} {l : List Dmg} {len : Int} (hg : good k l = true) (hs : Srt l) (hl : 1 ≤ len ∧ len ≤ 3000) {i : Nat} (hi : i < l.length) :
    bwV k l (gth l i).a len = brk l (gth l i).a len (-1) ∧ bwOk k l (gth l i).a len = true :=
  bw_yes hg ((inR_iff _ _ _).2 ⟨(hs.bd i hi).1, (hs.bd i hi).2.1⟩) ((inR_iff _ _ _).2 hl)
theorem bwOk_yes {k : RK} {l : List Dmg} {fr len : Int} (h : bwOk k l fr len = true) : good k l = true ∧ (0 ≤ fr ∧ fr ≤ 3000) ∧ (1 ≤ len ∧ len ≤ 3000) ∧ bwV k l fr len = brk l fr len (-1) := by
  have hh := h
  unfold bwOk at h
  rw [Bool.and_eq_true, Bool.and_eq_true, inR_iff, inR_iff] at h
  exact ⟨h.1.1, h.1.2, h.2, by simp [bwV, hh]⟩
theorem brk_nn (l : List Dmg) (q y : Int) : True := trivial
theorem sumW_split (f g h : Dmg → Bool) (hf : ∀ x, f x = (g x || h x)) (hd : ∀ x, g x = true → h x = false) : ∀ l : List Dmg, sumW f l = sumW g l + sumW h l
  | [] => by simp [sumW]
  | x :: l => by
    rw [sumW, sumW, sumW, sumW_split f g h hf hd l, hf x]
    cases hg : g x with
    | true => rw [hd x hg]; simp; omega
    | false => cases h x <;> simp <;> omega
theorem brk_split (l : List Dmg) (q y : Int) (hy : 1 < y) : brk l q 1 (-1) + brk l (q + 1) (y - 1) (-1) = brk l q y (-1) := by
  unfold brk
  rw [sumW_split (win q y (-1)) (win q 1 (-1)) (win (q + 1) (y - 1) (-1))]
  · intro x
    have e : ofS (-1) x = true := by simp [ofS]
    unfold win inW
    rw [e, Bool.and_true, Bool.and_true, Bool.and_true]
    by_cases h1 : q ≤ x.a
    · by_cases h2 : x.a ≤ q + y - 1
      · have a1 : inR x.a q (q + y - 1) = true := (inR_iff _ _ _).2 ⟨h1, h2⟩
        rw [a1]
        by_cases h3 : x.a ≤ q
        · have a2 : inR x.a q (q + 1 - 1) = true := (inR_iff _ _ _).2 ⟨h1, by omega⟩
          rw [a2]; rfl
        · have a2 : inR x.a (q + 1) (q + 1 + (y - 1) - 1) = true := (inR_iff _ _ _).2 ⟨by omega, by omega⟩
          rw [a2, Bool.or_true]
      · have a1 : inR x.a q (q + y - 1) = false := (inR_no _ _ _).2 (by omega)
        have a2 : inR x.a q (q + 1 - 1) = false := (inR_no _ _ _).2 (by omega)
        have a3 : inR x.a (q + 1) (q + 1 + (y - 1) - 1) = false := (inR_no _ _ _).2 (by omega)
        rw [a1, a2, a3]; rfl
    · have a1 : inR x.a q (q + y - 1) = false := (inR_no _ _ _).2 (by omega)
      have a2 : inR x.a q (q + 1 - 1) = false := (inR_no _ _ _).2 (by omega)
      have a3 : inR x.a (q + 1) (q + 1 + (y - 1) - 1) = false := (inR_no _ _ _).2 (by omega)
      rw [a1, a2, a3]; rfl
  · intro x hx
    unfold win at hx ⊢
    rw [Bool.and_eq_true] at hx
    have h1 := (inR_iff _ _ _).1 hx.1
    have a3 : inW (q + 1) (y - 1) x = false := (inR_no _ _ _).2 (by omega)
    rw [a3]; rfl
theorem bst_min (l : List RK) (s : Int) : ∀ k j, j < k → s ≤ (gth l j).p → ∃ b : Nat, bst l s k = (b : Int) ∧ b < k ∧ (gth l b).g ≤ (gth l j).g
  | 0, j, h, _ => by omega
  | k + 1, j, h, hp => by
    by_cases e : j = k
    · subst e
      rcases bst_nat l s j with h1 | ⟨b, h1, hb⟩
      · exact ⟨j, bst_take hp (.inl h1), by omega, Int.le_refl _⟩
      · by_cases hg : (gth l j).g < (gth l b).g
        · exact ⟨j, bst_take hp (.inr ⟨b, h1, hg⟩), by omega, Int.le_refl _⟩
        · exact ⟨b, by rw [bst_keep2 h1 (by omega)]; exact h1, by omega, by omega⟩
    · obtain ⟨b, h1, hb, hle⟩ := bst_min l s k j (by omega) hp
      by_cases hk : s ≤ (gth l k).p
      · by_cases hg : (gth l k).g < (gth l b).g
        · exact ⟨k, bst_take hk (.inr ⟨b, h1, hg⟩), by omega, by omega⟩
        · exact ⟨b, by rw [bst_keep2 h1 (by omega)]; exact h1, by omega, hle⟩
      · exact ⟨b, by rw [bst_keep1 (by omega)]; exact h1, by omega, hle⟩
theorem Kinds.mono {l : List RK} (h : Kinds l) : ∀ d i, i + d + 1 < l.length → (gth l i).i < (gth l (i + d + 1)).i
  | 0, i, hi => (h.ok (i + 1) (by omega)).2 (by omega)
  | d + 1, i, hi => by
    have h1 := Kinds.mono h d i (by omega)
    have h2 := (h.ok (i + (d + 1) + 1) hi).2 (by omega)
    have e : i + (d + 1) + 1 - 1 = i + d + 1 := by omega
    rw [e] at h2
    omega
theorem Kinds.inj {l : List RK} (h : Kinds l) {i j : Nat} (hi : i < l.length) (hj : j < l.length) (e : (gth l i).i = (gth l j).i) : i = j := by
  by_cases h1 : i < j
  · have := h.mono (j - i - 1) i (by omega)
    rw [show i + (j - i - 1) + 1 = j by omega] at this
    omega
  · by_cases h2 : j < i
    · have := h.mono (i - j - 1) j (by omega)
      rw [show j + (i - j - 1) + 1 = i by omega] at this
      omega
    · omega
theorem li_law {l : List RK} {s : Int} (h : liOk l s = true) : ∃ b : Nat, b < l.length ∧ liV l s = (gth l b).i ∧ (∀ i, i < l.length → (gth l i).i = (gth l b).i → i = b) ∧ (∀ i, i < l.length → s ≤ (gth l i).p → (gth l b).g ≤ (gth l i).g) ∧ l.length ≤ 6 := by
  have hh := h
  unfold liOk liIn at h
  rw [Bool.and_eq_true, Bool.and_eq_true, decide_eq_true_eq] at h
  have hk := kinds_yes h.1.1
  rcases bst_nat l s l.length with h1 | ⟨b, h1, hb⟩
  · omega
  · refine ⟨b, hb, by simp [liV, hh, h1], fun i hi e => hk.inj hi hb e, fun i hi hp => ?_, hk.len⟩
    obtain ⟨b2, h2, _, hle⟩ := bst_min l s l.length i hi hp
    have : b2 = b := by omega
    rw [← this]; exact hle
end Go.Proofs.Ytiogjocbiagipab
