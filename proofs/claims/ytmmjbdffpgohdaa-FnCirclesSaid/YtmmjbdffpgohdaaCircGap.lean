/- Circles of chapter 8 as plain numbers: what is valid, the gaps and their sum, the places of neighbours. Condition: sizes. -/
import Derived.Test.YtmmjbdffpgohdaaCircMath
import Derived.Test.YtmmjbdffpgohdaaKindW
namespace Go.Proofs.Ytmmjbdffpgohdaa
set_option linter.unusedVariables false
/-- the first k starts lie within bounds and ascend -/
def riseN (s : List Int) (lo hi : Int) : Nat → Bool
  | 0 => true
  | k + 1 => riseN s lo hi k && (inR (s.getD k 0) lo hi && (k == 0 || decide (s.getD (k - 1) 0 < s.getD k 0)))
theorem rise_at {s : List Int} {lo hi : Int} : ∀ {n k : Nat}, riseN s lo hi n = true → k < n → lo ≤ s.getD k 0 ∧ s.getD k 0 ≤ hi
  | 0, k, h, hk => by omega
  | n + 1, k, h, hk => by
    simp only [riseN, Bool.and_eq_true, inR, decide_eq_true_eq] at h
    by_cases e : k = n
    · subst e
      exact h.2.1
    · exact rise_at h.1 (by omega)
theorem rise_next {s : List Int} {lo hi : Int} : ∀ {n k : Nat}, riseN s lo hi n = true → k + 1 < n → s.getD k 0 < s.getD (k + 1) 0
  | 0, k, h, hk => by omega
  | n + 1, k, h, hk => by
    simp only [riseN, Bool.and_eq_true, Bool.or_eq_true, decide_eq_true_eq, beq_iff_eq] at h
    by_cases e : k + 1 = n
    · subst e
      rcases h.2.2 with h1 | h1
      · omega
      · simpa using h1
    · exact rise_next h.1 (by omega)
theorem rise_lt {s : List Int} {lo hi : Int} {n : Nat} (h : riseN s lo hi n = true) {i : Nat} : ∀ {j : Nat}, i < j → j < n → s.getD i 0 < s.getD j 0
  | 0, hi2, hj => by omega
  | j + 1, hi2, hj => by
    have h1 := rise_next h hj
    by_cases e : i = j
    · subst e
      exact h1
    · have := rise_lt h (show i < j by omega) (by omega)
      omega
/-- a valid circle -/
def cirV (L S : Int) (s : List Int) : Bool := inR L 10 4000 && (inR S 1 100 && (riseN s 0 (L - 1) s.length && decide (s.length ≤ 12)))
theorem cirV_parts {L S : Int} {s : List Int} (h : cirV L S s = true) : (10 ≤ L ∧ L ≤ 4000) ∧ (1 ≤ S ∧ S ≤ 100) ∧ riseN s 0 (L - 1) s.length = true ∧ s.length ≤ 12 := by
  simp only [cirV, Bool.and_eq_true, inR, decide_eq_true_eq] at h
  exact ⟨h.1, h.2.1, h.2.2.1, h.2.2.2⟩
/-- the gap behind a cabin -/
def gapAt (L : Int) (s : List Int) (i : Nat) : Int := if i + 1 < s.length then s.getD (i + 1) 0 - s.getD i 0 else L - s.getD i 0 + s.getD 0 0
theorem gap_in {L : Int} {s : List Int} {i : Nat} (h : i + 1 < s.length) : gapAt L s i = s.getD (i + 1) 0 - s.getD i 0 := by unfold gapAt; rw [if_pos h]
theorem gap_last {L : Int} {s : List Int} {i : Nat} (h : ¬ i + 1 < s.length) : gapAt L s i = L - s.getD i 0 + s.getD 0 0 := by unfold gapAt; rw [if_neg h]
theorem gap_bd {L : Int} {s : List Int} {i : Nat} (h : riseN s 0 (L - 1) s.length = true) (hi : i < s.length) : 1 ≤ gapAt L s i ∧ gapAt L s i ≤ L ∧ (1 < s.length → gapAt L s i < L) := by
  have h1 := rise_at h hi
  have h0 := rise_at h (show 0 < s.length by omega)
  by_cases e : i + 1 < s.length
  · rw [gap_in e]
    have h2 := rise_next h e
    have h3 := rise_at h e
    exact ⟨by omega, by omega, fun _ => by omega⟩
  · rw [gap_last e]
    by_cases e0 : i = 0
    · subst e0
      exact ⟨by omega, by omega, fun k => by omega⟩
    · have h2 := rise_lt h (show 0 < i by omega) hi
      exact ⟨by omega, by omega, fun _ => by omega⟩
/-- the first j gaps -/
def gapsTo (L : Int) (s : List Int) (j : Nat) : List Int := (List.range j).map (gapAt L s)
theorem gapsTo_len (L : Int) (s : List Int) (j : Nat) : (gapsTo L s j).length = j := by simp [gapsTo]
theorem gapsTo_succ (L : Int) (s : List Int) (j : Nat) : gapsTo L s (j + 1) = gapsTo L s j ++ [gapAt L s j] := by simp [gapsTo, List.range_succ]
theorem gapsTo_at {L : Int} {s : List Int} {j k : Nat} (h : k < j) : (gapsTo L s j).getD k 0 = gapAt L s k := by simp [gapsTo, List.getD, h]
def gapsL (L : Int) (s : List Int) : List Int := gapsTo L s s.length
theorem gapsTo_sum {L : Int} {s : List Int} : ∀ j : Nat, j < s.length → (gapsTo L s j).sum = s.getD j 0 - s.getD 0 0
  | 0, h => by simp [gapsTo]
  | j + 1, h => by
    rw [gapsTo_succ, List.sum_append, gapsTo_sum j (by omega), gap_in h]
    simp only [List.sum_cons, List.sum_nil]
    omega
/-- all gaps together are the ring -/
theorem gaps_sum {L : Int} {s : List Int} (h : 0 < s.length) : (gapsL L s).sum = L := by
  obtain ⟨n, hn⟩ : ∃ n, s.length = n + 1 := ⟨s.length - 1, by omega⟩
  unfold gapsL
  rw [hn, gapsTo_succ, List.sum_append, gapsTo_sum n (by omega), gap_last (by omega)]
  simp only [List.sum_cons, List.sum_nil]
  omega
/-- the least of the first k + 1 gaps, the index of the first greatest -/
def leastTo (f : Nat → Int) : Nat → Int
  | 0 => f 0
  | k + 1 => if leastTo f k < f (k + 1) then leastTo f k else f (k + 1)
theorem leastTo_le (f : Nat → Int) : ∀ {k j : Nat}, j ≤ k → leastTo f k ≤ f j
  | 0, j, h => by
    have : j = 0 := by omega
    subst this
    exact Int.le_refl _
  | k + 1, j, h => by
    simp only [leastTo]
    by_cases e : j = k + 1
    · subst e
      split <;> omega
    · have := leastTo_le f (show j ≤ k by omega)
      split <;> omega
theorem leastTo_some (f : Nat → Int) : ∀ k : Nat, ∃ j, j ≤ k ∧ leastTo f k = f j
  | 0 => ⟨0, Nat.le_refl _, rfl⟩
  | k + 1 => by
    obtain ⟨j, hj, e⟩ := leastTo_some f k
    simp only [leastTo]
    split
    · exact ⟨j, by omega, e⟩
    · exact ⟨k + 1, Nat.le_refl _, rfl⟩
/-- only one number is the least -/
theorem leastTo_is {f : Nat → Int} {k : Nat} {v : Int} (h1 : ∀ j, j ≤ k → v ≤ f j) (h2 : ∃ j, j ≤ k ∧ v = f j) : v = leastTo f k := by
  obtain ⟨j, hj, e⟩ := h2
  obtain ⟨i, hi, d⟩ := leastTo_some f k
  have a := leastTo_le f hj
  have b := h1 i hi
  omega
def amax (f : Nat → Int) : Nat → Nat
  | 0 => 0
  | k + 1 => if f (amax f k) < f (k + 1) then k + 1 else amax f k
theorem amax_le (f : Nat → Int) : ∀ k, amax f k ≤ k
  | 0 => Nat.le_refl _
  | k + 1 => by
    have := amax_le f k
    simp only [amax]
    split <;> omega
theorem amax_most (f : Nat → Int) : ∀ {k j : Nat}, j ≤ k → f j ≤ f (amax f k)
  | 0, j, h => by
    have : j = 0 := by omega
    subst this
    exact Int.le_refl _
  | k + 1, j, h => by
    simp only [amax]
    by_cases e : j = k + 1
    · subst e
      split <;> omega
    · have := amax_most f (show j ≤ k by omega)
      split <;> omega
/-- the places of all cabins at x decimeters -/
def placesTo (L x : Int) (s : List Int) (j : Nat) : List Int := (List.range j).map fun k => placeAt L (s.getD k 0) x
theorem placesTo_len (L x : Int) (s : List Int) (j : Nat) : (placesTo L x s j).length = j := by simp [placesTo]
theorem placesTo_succ (L x : Int) (s : List Int) (j : Nat) : placesTo L x s (j + 1) = placesTo L x s j ++ [placeAt L (s.getD j 0) x] := by simp [placesTo, List.range_succ]
theorem placesTo_at {L x : Int} {s : List Int} {j k : Nat} (h : k < j) : (placesTo L x s j).getD k 0 = placeAt L (s.getD k 0) x := by simp [placesTo, List.getD, h]
/-- the law FnPasses's rounds: neighbours stay a gap apart -/
theorem places_gap {L x : Int} {s : List Int} (hL : 0 < L) (h : riseN s 0 (L - 1) s.length = true) (h1 : 1 < s.length) {i : Nat} (hi : i < s.length) :
    (placeAt L (s.getD ((i + 1) % s.length) 0) x - placeAt L (s.getD i 0) x + 10 * L) % (10 * L) = 10 * gapAt L s i := by
  obtain ⟨g1, g2, g3⟩ := gap_bd h hi
  refine place_way hL ⟨by omega, g3 h1⟩ ?_
  by_cases e : i + 1 < s.length
  · rw [Nat.mod_eq_of_lt e, gap_in e]
    exact Or.inl rfl
  · have : i + 1 = s.length := by omega
    rw [this, Nat.mod_self, gap_last e]
    exact Or.inr (by omega)
/-- the law FnPasses: the second of the next pass is not before the time, and somebody has come by then -/
theorem pass_law {L S p T : Int} {s : List Int} (hL : 0 < L) (hS : 0 < S) (h0 : 0 < s.length) (v : Int)
    (hv : ∃ b, b < s.length ∧ v = nextW (10 * L) (S * T) (wayOf L (s.getD b 0) p)) :
    T ≤ secOf S v ∧ passN (10 * L) (S * T) (fun k => wayOf L (s.getD k 0) p) s.length ≤ passN (10 * L) (S * secOf S v) (fun k => wayOf L (s.getD k 0) p) s.length ∧ 0 < passN (10 * L) (S * secOf S v) (fun k => wayOf L (s.getD k 0) p) s.length := by
  obtain ⟨b, hb, e⟩ := hv
  have ht : (0 : Int) < 10 * L := by omega
  have a1 := nextW_ge (t := 10 * L) (x := S * T) (w := wayOf L (s.getD b 0) p) ht
  have a2 := nextW_from (t := 10 * L) (x := S * T) (w := wayOf L (s.getD b 0) p) ht
  rw [← e] at a1 a2
  have a3 := secOf_ge hS a1
  have a4 := secOf_reached (v := v) hS
  exact ⟨a3, passN_mono ht (Int.mul_le_mul_of_nonneg_left a3 (by omega)) _, passN_pos (j := b) ht hb (by show wayOf L (s.getD b 0) p ≤ _; omega)⟩
end Go.Proofs.Ytmmjbdffpgohdaa
