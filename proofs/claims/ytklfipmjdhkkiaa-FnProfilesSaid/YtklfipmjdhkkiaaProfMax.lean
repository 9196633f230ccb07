/- What the fastest profile and a joined one keep. No condition. -/
import Derived.Test.YtklfipmjdhkkiaaProfMath
namespace Go.Proofs.Ytklfipmjdhkkiaa
open Go.RowKit
set_option linter.unusedVariables false
theorem fwN_later {l : List Int} {a : Int} {m i : Nat} (h : i ≤ m) : ∀ d, (fwN l a (m + d)).getD i 0 = (fwN l a m).getD i 0
  | 0 => rfl
  | d + 1 => by
    have := fwN_later (l := l) (a := a) h d
    rw [← this]
    exact fwN_stay (m + d) i (by omega)
theorem fwN_val {l : List Int} {a : Int} {n k : Nat} (hk : k < n) (hn : n + 1 ≤ l.length) :
    (fwN l a n).getD (k + 1) 0 = (if (fwN l a n).getD k 0 + a < l.getD (k + 1) 0 then (fwN l a n).getD k 0 + a else l.getD (k + 1) 0) := by
  obtain ⟨d, rfl⟩ : ∃ d, n = k + 1 + d := ⟨n - (k + 1), by omega⟩
  rw [fwN_later (m := k + 1) (i := k + 1) (Nat.le_refl _) d, fwN_later (m := k + 1) (i := k) (by omega) d, fwN_stay k k (Nat.le_refl _)]
  have hl := fwN_len l a k
  have hp := fwN_past (l := l) (a := a) k (k + 1) (by omega)
  simp only [fwN]
  rw [at_set_same (by omega), hp]
theorem bkN_past {l : List Int} {a : Int} : ∀ k i, i + k + 1 < l.length → (bkN l a k).getD i 0 = l.getD i 0
  | 0, i, _ => rfl
  | k + 1, i, h => by
    simp only [bkN]
    rw [at_set_other (by omega)]
    exact bkN_past k i (by omega)
theorem bkN_stay {l : List Int} {a : Int} {k i : Nat} (h : l.length - 2 - k < i) : (bkN l a (k + 1)).getD i 0 = (bkN l a k).getD i 0 := by
  simp only [bkN]
  rw [at_set_other (by omega)]
theorem bkN_later {l : List Int} {a : Int} {k i : Nat} (h : l.length - 1 - k ≤ i) (hk : k + 1 ≤ l.length) : ∀ d, k + d + 1 ≤ l.length → (bkN l a (k + d)).getD i 0 = (bkN l a k).getD i 0
  | 0, _ => rfl
  | d + 1, hd => by
    have ih := bkN_later (a := a) h hk d (by omega)
    have hs : l.length - 2 - (k + d) < i := by omega
    rw [← ih]
    exact bkN_stay hs
theorem fuB_val {l : List Int} {a : Int} {i : Nat} (hi : i + 1 < l.length) :
    (fuB l a).getD i 0 = (if (fuB l a).getD (i + 1) 0 + a < l.getD i 0 then (fuB l a).getD (i + 1) 0 + a else l.getD i 0) := by
  unfold fuB
  obtain ⟨k, hk⟩ : ∃ k, k = l.length - 2 - i := ⟨_, rfl⟩
  obtain ⟨d, hd⟩ : ∃ d, l.length - 1 = k + 1 + d := ⟨i, by omega⟩
  have e1 := bkN_later (l := l) (a := a) (k := k + 1) (i := i) (by omega) (by omega) d (by omega)
  have e2 := bkN_later (l := l) (a := a) (k := k + 1) (i := i + 1) (by omega) (by omega) d (by omega)
  have e3 := bkN_stay (l := l) (a := a) (k := k) (i := i + 1) (by omega)
  have hl := bkN_len l a k
  have hp := bkN_past (l := l) (a := a) k i (by omega)
  rw [hd, e1, e2, e3]
  simp only [bkN]
  rw [show l.length - 2 - k = i by omega, show l.length - 1 - k = i + 1 by omega, at_set_same (by omega), hp]
theorem fuB_last {l : List Int} {a : Int} (h : 0 < l.length) : (fuB l a).getD (l.length - 1) 0 = l.getD (l.length - 1) 0 := by
  unfold fuB
  have := bkN_later (l := l) (a := a) (k := 0) (i := l.length - 1) (by omega) (by omega) (l.length - 1) (by omega)
  rw [Nat.zero_add] at this
  rw [this]
  rfl
theorem fuS_at {l : List Int} {f a : Int} {i : Nat} (h : 0 < i) : (fuS l f a).getD i 0 = (fuB l a).getD i 0 := by
  unfold fuS
  exact at_set_other (by omega)
theorem fuL_zero {l : List Int} {f a : Int} (h : 0 < l.length) : (fuL l f a).getD 0 0 = f := by
  unfold fuL
  have := fwN_later (l := fuS l f a) (a := a) (m := 0) (i := 0) (Nat.le_refl _) (l.length - 1)
  rw [Nat.zero_add] at this
  rw [this]
  have hl : (fuB l a).length = l.length := bkN_len _ _ _
  show (fuS l f a).getD 0 0 = f
  unfold fuS
  exact at_set_same (by omega)
theorem fuL_leB {l : List Int} {f a : Int} {i : Nat} (h : 0 < i) : (fuL l f a).getD i 0 ≤ (fuB l a).getD i 0 := by
  rw [← fuS_at (f := f) h]
  exact fwN_le _ _
/-- Nowhere greater than the limits. -/
theorem fuL_le {l : List Int} {f a : Int} (h : fuOk l f a = true) {i : Nat} (hi : i < l.length) : (fuL l f a).getD i 0 ≤ l.getD i 0 := by
  by_cases e : 0 < i
  · exact Int.le_trans (fuL_leB e) (bkN_le _ _)
  · obtain rfl : i = 0 := by omega
    rw [fuL_zero hi]
    unfold fuOk at h
    rw [Bool.and_eq_true, inR_iff] at h
    exact Int.le_trans h.2.2 (bkN_le _ _)
/-- A speed below its limit is held by the one before or by the one behind it. -/
theorem fuL_max {l : List Int} {f a : Int} {i : Nat} (h0 : 0 < i) (hi : i < l.length) (h1 : (fuL l f a).getD i 0 < l.getD i 0) (h2 : (fuL l f a).getD i 0 < (fuL l f a).getD (i - 1) 0 + a) :
    i + 1 < l.length ∧ ¬ (fuL l f a).getD i 0 < (fuL l f a).getD (i + 1) 0 + a := by
  obtain ⟨k, rfl⟩ : ∃ k, i = k + 1 := ⟨i - 1, by omega⟩
  have hs := fuS_len l f a
  have hv := fwN_val (l := fuS l f a) (a := a) (n := l.length - 1) (k := k) (by omega) (by omega)
  rw [Nat.add_sub_cancel] at h2
  have hB : (fuL l f a).getD (k + 1) 0 = (fuB l a).getD (k + 1) 0 := by
    unfold fuL at h2 ⊢
    rw [hv] at h2 ⊢
    rw [fuS_at (by omega)] at h2 ⊢
    split at h2
    · omega
    · rename_i hneg
      rw [if_neg hneg]
  have hlast : k + 1 + 1 < l.length := by
    by_cases e : k + 1 + 1 < l.length
    · exact e
    · have := fuB_last (l := l) (a := a) (by omega)
      rw [show l.length - 1 = k + 1 by omega] at this
      rw [hB, this] at h1
      omega
  refine ⟨hlast, ?_⟩
  have hb := fuB_val (l := l) (a := a) (i := k + 1) hlast
  have hn := fuL_leB (l := l) (f := f) (a := a) (i := k + 1 + 1) (by omega)
  rw [hB] at h1 ⊢
  rw [hb] at h1 ⊢
  split at h1
  · omega
  · omega
theorem fuL_p9 {l : List Int} {f a : Int} (h : fuOk l f a = true) : p9V (fuL l f a) = true := by
  have h' := h
  unfold fuOk at h'
  rw [Bool.and_eq_true] at h'
  obtain ⟨⟨h1, h2⟩, h3⟩ := fu_parts h'.1
  rw [p9V_iff, fuL_len]
  exact ⟨h1, fuL_in h⟩
theorem bkN_same {l : List Int} {a : Int} (h : ∀ i, i + 1 < l.length → l.getD i 0 ≤ l.getD (i + 1) 0 + a) : ∀ k, k + 1 ≤ l.length → bkN l a k = l
  | 0, _ => rfl
  | k + 1, hk => by
    simp only [bkN]
    rw [bkN_same h k (by omega)]
    have h1 := h (l.length - 2 - k) (by omega)
    rw [show l.length - 2 - k + 1 = l.length - 1 - k by omega] at h1
    rw [if_neg (by omega)]
    refine at_ext (by simp) (fun i hi => ?_)
    by_cases e : l.length - 2 - k = i
    · rw [e, at_set_same (by simpa using hi)]
    · rw [at_set_other e]
theorem fwN_same {l : List Int} {a : Int} (h : ∀ i, i + 1 < l.length → l.getD (i + 1) 0 ≤ l.getD i 0 + a) : ∀ k, k + 1 ≤ l.length → fwN l a k = l
  | 0, _ => rfl
  | k + 1, hk => by
    simp only [fwN]
    rw [fwN_same h k (by omega)]
    have h1 := h k (by omega)
    rw [if_neg (by omega)]
    refine at_ext (by simp) (fun i hi => ?_)
    by_cases e : k + 1 = i
    · rw [e, at_set_same (by simpa using hi)]
    · rw [at_set_other e]
/-- The fastest profile under the fastest profile is itself. -/
theorem fu_again {l : List Int} {f a : Int} (h : fuOk l f a = true) : fuOk (fuL l f a) f a = true ∧ fuR (fuL l f a) f a = fuL l f a := by
  have h' := h
  unfold fuOk at h'
  rw [Bool.and_eq_true, inR_iff] at h'
  obtain ⟨⟨h1, h2⟩, h3⟩ := fu_parts h'.1
  have hl := fuL_len l f a
  have hk := (p9K_iff _ _).1 (fuL_keeps h)
  have hB : fuB (fuL l f a) a = fuL l f a := by
    unfold fuB
    refine bkN_same (fun i hi => ?_) _ (by omega)
    have := hk (i + 1) (by omega) hi
    rw [Nat.add_sub_cancel] at this
    omega
  have hz := fuL_zero (l := l) (f := f) (a := a) (by omega)
  have hok : fuOk (fuL l f a) f a = true := by
    unfold fuOk fuIn
    rw [fuL_p9 h, hB, hz, (inR_iff a 1 20).2 h3, (inR_iff f 0 f).2 ⟨h'.2.1, Int.le_refl _⟩]
    rfl
  refine ⟨hok, ?_⟩
  unfold fuR
  rw [if_pos hok]
  have hS : fuS (fuL l f a) f a = fuL l f a := by
    unfold fuS
    rw [hB]
    refine at_ext (by simp) (fun i hi => ?_)
    by_cases e : 0 = i
    · subst e
      rw [at_set_same (by simpa using hi), hz]
    · rw [at_set_other e]
  show fwN (fuS (fuL l f a) f a) a ((fuL l f a).length - 1) = fuL l f a
  rw [hS]
  refine fwN_same (fun i hi => ?_) _ (by omega)
  have := hk (i + 1) (by omega) hi
  rw [Nat.add_sub_cancel] at this
  omega
/-- What the law asks of the fastest profile. -/
theorem fu_keeps {l : List Int} {f a : Int} (h : fuOk l f a = true) :
    (fuR l f a).length = l.length ∧ 0 < l.length ∧ l.length ≤ 30 ∧ dkOk (fuR l f a) a = true ∧ dkV (fuR l f a) a = true ∧ fuOk (fuR l f a) f a = true ∧ fuR (fuR l f a) f a = fuR l f a ∧ (fuR l f a).getD 0 0 = f ∧ (1 ≤ a ∧ a ≤ 20) ∧
    (∀ i, i < l.length → 0 ≤ l.getD i 0 ∧ l.getD i 0 ≤ 100) ∧ (∀ i, i < l.length → 0 ≤ (fuR l f a).getD i 0 ∧ (fuR l f a).getD i 0 ≤ l.getD i 0) ∧
    (∀ i, 0 < i → i < l.length → (fuR l f a).getD i 0 < l.getD i 0 → (fuR l f a).getD i 0 < (fuR l f a).getD (i - 1) 0 + a → i + 1 < l.length ∧ ¬ (fuR l f a).getD i 0 < (fuR l f a).getD (i + 1) 0 + a) := by
  have e : fuR l f a = fuL l f a := by simp [fuR, h]
  have h' := h
  unfold fuOk at h'
  rw [Bool.and_eq_true, inR_iff] at h'
  obtain ⟨⟨h1, h2⟩, h3⟩ := fu_parts h'.1
  obtain ⟨h4, h5⟩ := fu_again h
  have h6 : dkOk (fuL l f a) a = true := by
    unfold dkOk
    rw [fuL_p9 h, (inR_iff a 1 20).2 h3]
    rfl
  rw [e]
  refine ⟨fuL_len _ _ _, by omega, h1.2, h6, by unfold dkV; rw [h6, fuL_keeps h]; rfl, h4, h5, fuL_zero (by omega), h3, h2, fun i hi => ⟨(fuL_in h i hi).1, fuL_le h hi⟩, fun i h0 hi g1 g2 => fuL_max h0 hi g1 g2⟩
theorem wayTo_agree {r s : List Int} : ∀ k, (∀ i, i ≤ k → r.getD i 0 = s.getD i 0) → wayTo r k = wayTo s k
  | 0, _ => rfl
  | k + 1, h => by
    simp only [wayTo]
    rw [wayTo_agree k (fun i hi => h i (by omega)), h k (by omega), h (k + 1) (by omega)]
theorem wayTo_shift {r s : List Int} {n : Nat} : ∀ j, (∀ i, i ≤ j → r.getD (n + i) 0 = s.getD i 0) → wayTo r (n + j) = wayTo r n + wayTo s j
  | 0, _ => by simp [wayTo]
  | j + 1, h => by
    show wayTo r (n + j + 1) = _
    simp only [wayTo]
    have h1 := h j (by omega)
    have h2 := h (j + 1) (by omega)
    rw [wayTo_shift j (fun i hi => h i (by omega)), h1, show n + j + 1 = n + (j + 1) by omega, h2]
    omega
/-- The ways of two profiles are the way of both joined. -/
theorem jn_way {a b : List Int} (h : jnOk a b = true) : p9V a = true ∧ p9V b = true ∧ p9V (jnR a b) = true ∧ dwV a + dwV b = dwV (jnR a b) ∧ (0 ≤ dwV a ∧ dwV a ≤ 6000) ∧ (0 ≤ dwV b ∧ dwV b ≤ 6000) := by
  have h' := h
  unfold jnOk at h'
  rw [Bool.and_eq_true] at h'
  have hp := jn_p9 h'.1
  have hi := h'.1
  unfold jnIn at hi
  rw [Bool.and_eq_true, Bool.and_eq_true, beq_iff_eq] at hi
  obtain ⟨⟨ha, hb⟩, he⟩ := hi
  have hr : jnR a b = a ++ b.drop 1 := by simp [jnR, h]
  rw [h] at hp
  obtain ⟨⟨a1, a30⟩, av⟩ := (p9V_iff a).1 ha
  obtain ⟨⟨b1, b30⟩, bv⟩ := (p9V_iff b).1 hb
  have wa := wayTo_bd av (a.length - 1) (by omega)
  have wb := wayTo_bd bv (b.length - 1) (by omega)
  have hlr : (a ++ b.drop 1).length = a.length + (b.length - 1) := by simp
  rw [hr]
  refine ⟨ha, hb, hp, ?_, ?_, ?_⟩
  · unfold dwV
    rw [if_pos ha, if_pos hb, if_pos hp]
    unfold p9Way
    rw [hlr, show a.length + (b.length - 1) - 1 = a.length - 1 + (b.length - 1) by omega]
    have e1 : wayTo (a ++ b.drop 1) (a.length - 1) = wayTo a (a.length - 1) := wayTo_agree _ (fun i hi => by
      rw [at_get (by rw [hlr]; omega), List.getElem_append_left (by omega), ← at_get])
    have e2 := wayTo_shift (r := a ++ b.drop 1) (s := b) (n := a.length - 1) (b.length - 1) (fun i hi => by
      by_cases e : i = 0
      · subst e
        rw [Nat.add_zero, at_get (by rw [hlr]; omega), List.getElem_append_left (by omega), ← at_get]
        exact he
      · rw [at_get (by rw [hlr]; omega), List.getElem_append_right (by omega), List.getElem_drop, at_get (show i < b.length by omega)]
        congr 1
        omega)
    rw [e2, e1]
  · unfold dwV
    rw [if_pos ha]
    unfold p9Way
    omega
  · unfold dwV
    rw [if_pos hb]
    unfold p9Way
    omega
end Go.Proofs.Ytklfipmjdhkkiaa
