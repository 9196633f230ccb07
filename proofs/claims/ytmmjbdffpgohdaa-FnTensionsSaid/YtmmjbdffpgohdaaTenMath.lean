/- Load cases and tensions along a line, in plain words. No condition. -/
import Derived.Test.YtmmjbdffpgohdaaLCS
import Derived.Test.YtmmjbdffpgohdaaKindW
import Derived.Test.YtmmjbdffpgohdaaSpanW
namespace Go.Proofs.Ytmmjbdffpgohdaa
open Go.RowKit
set_option linter.unusedVariables false
/-- A valid load case. -/
def isLC (x : LC) : Bool := inR x.w 1 1000 && inR x.c 1 1000000 && inR x.r 0 1000
theorem isLC_iff (x : LC) : isLC x = true ↔ (1 ≤ x.w ∧ x.w ≤ 1000) ∧ (1 ≤ x.c ∧ x.c ≤ 1000000) ∧ (0 ≤ x.r ∧ x.r ≤ 1000) := by
  unfold isLC; simp only [Bool.and_eq_true, inR_iff, and_assoc]
/-- By how much the tension at the support k is greater than at the first one. -/
def chg (l : List Sup) (g f : Int) : Nat → Int
  | 0 => 0
  | k + 1 => chg l g f k + g * srise l k + f
theorem chg_zero (l : List Sup) (g f : Int) : chg l g f 0 = 0 := rfl
theorem chg_succ (l : List Sup) (g f : Int) (k : Nat) : chg l g f (k + 1) = chg l g f k + g * srise l k + f := rfl
theorem gs_bd {g s : Int} (hg : 1 ≤ g ∧ g ≤ 1000) (hs : -2000 ≤ s ∧ s ≤ 2000) : -2000000 ≤ g * s ∧ g * s ≤ 2000000 := by
  have h1 : 0 ≤ g * (s + 2000) := Int.mul_nonneg (by omega) (by omega)
  have h2 : 0 ≤ g * (2000 - s) := Int.mul_nonneg (by omega) (by omega)
  rw [Int.mul_add] at h1
  rw [Int.mul_sub] at h2
  omega
theorem chg_bd {l : List Sup} {g f : Int} (hl : IsL l) (hg : 1 ≤ g ∧ g ≤ 1000) (hf : -1000 ≤ f ∧ f ≤ 1000) : ∀ k : Nat, k < l.length → -(2001000 * (k : Int)) ≤ chg l g f k ∧ chg l g f k ≤ 2001000 * (k : Int)
  | 0, _ => by simp [chg]
  | k + 1, hk => by
    have h1 := chg_bd hl hg hf k (by omega)
    have h2 := gs_bd hg (srise_bd hl hk)
    rw [chg_succ]
    omega
theorem chg_in {l : List Sup} {g f : Int} (hl : IsL l) (hg : 1 ≤ g ∧ g ≤ 1000) (hf : -1000 ≤ f ∧ f ≤ 1000) {k : Nat} (hk : k < l.length) : -16000000 ≤ chg l g f k ∧ chg l g f k ≤ 16000000 := by
  have h1 := chg_bd hl hg hf k hk
  have h2 := hl.eight
  omega
theorem chg_rub {l : List Sup} {g r : Int} (hr : 0 ≤ r) : ∀ k : Nat, chg l g (-r) k ≤ chg l g r k
  | 0 => by simp [chg]
  | k + 1 => by
    have h1 := chg_rub (l := l) (g := g) hr k
    rw [chg_succ, chg_succ]
    omega
theorem chg_two (l : List Sup) (g r : Int) : ∀ k : Nat, chg l g r k - chg l g (-r) k = 2 * r * (k : Int)
  | 0 => by simp [chg]
  | k + 1 => by
    have h1 := chg_two l g r k
    rw [chg_succ, chg_succ]
    have e : (2 * r * ((k + 1 : Nat) : Int)) = 2 * r * (k : Int) + 2 * r := by push_cast; rw [Int.mul_add, Int.mul_one]
    rw [e]
    omega
/-- The tension at the support k. -/
def ten (l : List Sup) (x : LC) (f : Int) (k : Nat) : Int := x.c + chg l x.w f k
theorem ten_zero (l : List Sup) (x : LC) (f : Int) : ten l x f 0 = x.c := by simp [ten, chg]
theorem ten_succ (l : List Sup) (x : LC) (f : Int) (k : Nat) : ten l x f (k + 1) = ten l x f k + x.w * srise l k + f := by unfold ten; rw [chg_succ]; omega
/-- The first k tensions are not less than 0. -/
def tenG (l : List Sup) (x : LC) (f : Int) : Nat → Bool
  | 0 => true
  | k + 1 => tenG l x f k && decide (0 ≤ ten l x f k)
theorem tenG_zero (l : List Sup) (x : LC) (f : Int) : tenG l x f 0 = true := rfl
theorem tenG_yes {l : List Sup} {x : LC} {f : Int} {k : Nat} (h : 0 ≤ ten l x f k) : tenG l x f (k + 1) = tenG l x f k := by simp [tenG, h]
theorem tenG_no {l : List Sup} {x : LC} {f : Int} {k : Nat} (h : ten l x f k < 0) : tenG l x f (k + 1) = false := by
  have : ¬ 0 ≤ ten l x f k := by omega
  simp [tenG, this]
theorem tenG_down {l : List Sup} {x : LC} {f : Int} : ∀ {k m : Nat}, k ≤ m → tenG l x f k = false → tenG l x f m = false
  | k, 0, h, h0 => by obtain rfl : k = 0 := by omega
                      exact h0
  | k, m + 1, h, h0 => by
    by_cases e : k = m + 1
    · rw [← e]; exact h0
    · have := tenG_down (m := m) (by omega) h0
      simp [tenG, this]
theorem tenG_iff {l : List Sup} {x : LC} {f : Int} : ∀ (m : Nat), tenG l x f m = true ↔ ∀ k, k < m → 0 ≤ ten l x f k
  | 0 => by simp [tenG]
  | m + 1 => by
    rw [tenG, Bool.and_eq_true, tenG_iff m]
    simp only [decide_eq_true_eq]
    constructor
    · rintro ⟨h1, h2⟩ k hk
      by_cases e : k = m
      · rw [e]; exact h2
      · exact h1 k (by omega)
    · intro h
      exact ⟨fun k hk => h k (by omega), h m (by omega)⟩
/-- A line and a load case that may be asked for. -/
noncomputable def askOk (l : List Sup) (x : LC) : Bool := isL l && isLC x
/-- The tensions hold. -/
noncomputable def tenOk (l : List Sup) (x : LC) (f : Int) : Bool := askOk l x && tenG l x f l.length
def tenK (l : List Sup) (x : LC) (f : Int) (k : Nat) : List Int := (List.range k).map (ten l x f)
noncomputable def tenL (l : List Sup) (x : LC) (f : Int) : List Int := if tenOk l x f then tenK l x f l.length else []
theorem tenK_len (l : List Sup) (x : LC) (f : Int) (k : Nat) : (tenK l x f k).length = k := by simp [tenK]
theorem tenK_succ (l : List Sup) (x : LC) (f : Int) (k : Nat) : tenK l x f (k + 1) = tenK l x f k ++ [ten l x f k] := by simp [tenK, List.range_succ]
theorem tenK_at {l : List Sup} {x : LC} {f : Int} {k i : Nat} (h : i < k) : (tenK l x f k)[i]? = some (ten l x f i) := by simp [tenK, h]
theorem tenL_yes {l : List Sup} {x : LC} {f : Int} (h : tenOk l x f = true) : tenL l x f = tenK l x f l.length := by simp [tenL, h]
theorem tenL_no {l : List Sup} {x : LC} {f : Int} (h : tenOk l x f = false) : tenL l x f = [] := by simp [tenL, h]
theorem tenOk_yes {l : List Sup} {x : LC} {f : Int} (h : tenOk l x f = true) : IsL l ∧ ((1 ≤ x.w ∧ x.w ≤ 1000) ∧ (1 ≤ x.c ∧ x.c ≤ 1000000) ∧ (0 ≤ x.r ∧ x.r ≤ 1000)) ∧ ∀ k, k < l.length → 0 ≤ ten l x f k := by
  unfold tenOk askOk at h
  rw [Bool.and_eq_true, Bool.and_eq_true, isLC_iff, tenG_iff] at h
  exact ⟨isL_yes h.1.1, h.1.2, h.2⟩
theorem askOk_yes {l : List Sup} {x : LC} (h : askOk l x = true) : IsL l ∧ ((1 ≤ x.w ∧ x.w ≤ 1000) ∧ (1 ≤ x.c ∧ x.c ≤ 1000000) ∧ (0 ≤ x.r ∧ x.r ≤ 1000)) := by
  unfold askOk at h
  rw [Bool.and_eq_true, isLC_iff] at h
  exact ⟨isL_yes h.1, h.2⟩
theorem tenL_len (l : List Sup) (x : LC) (f : Int) : (tenL l x f).length ≤ 8 := by
  cases h : tenOk l x f with
  | false => rw [tenL_no h]; simp
  | true => rw [tenL_yes h, tenK_len]; exact (tenOk_yes h).1.eight
theorem ten_in {l : List Sup} {x : LC} {f : Int} (hl : IsL l) (hx : (1 ≤ x.w ∧ x.w ≤ 1000) ∧ (1 ≤ x.c ∧ x.c ≤ 1000000) ∧ (0 ≤ x.r ∧ x.r ≤ 1000)) (hf : -1000 ≤ f ∧ f ≤ 1000) {k : Nat} (hk : k < l.length) : -16000000 ≤ ten l x f k ∧ ten l x f k ≤ 17000000 := by
  have h1 := chg_in hl hx.1 hf hk
  unfold ten
  omega
/-- The first greatest one of the first k + 1 tensions. -/
def bestT (t : Nat → Int) : Nat → Nat
  | 0 => 0
  | k + 1 => if t (bestT t k) < t (k + 1) then k + 1 else bestT t k
theorem bestT_le (t : Nat → Int) : ∀ k, bestT t k ≤ k
  | 0 => by simp [bestT]
  | k + 1 => by
    have := bestT_le t k
    rw [bestT]; split <;> omega
theorem bestT_yes {t : Nat → Int} {k : Nat} (h : t (bestT t k) < t (k + 1)) : bestT t (k + 1) = k + 1 := by rw [bestT, if_pos h]
theorem bestT_no {t : Nat → Int} {k : Nat} (h : ¬ t (bestT t k) < t (k + 1)) : bestT t (k + 1) = bestT t k := by rw [bestT, if_neg h]
theorem bestT_max (t : Nat → Int) : ∀ k j, j ≤ k → t j ≤ t (bestT t k)
  | 0, j, h => by obtain rfl : j = 0 := by omega
                  simp [bestT]
  | k + 1, j, h => by
    by_cases hb : t (bestT t k) < t (k + 1)
    · rw [bestT_yes hb]
      by_cases e : j = k + 1
      · rw [e]; exact Int.le_refl _
      · have := bestT_max t k j (by omega); omega
    · rw [bestT_no hb]
      by_cases e : j = k + 1
      · rw [e]; omega
      · exact bestT_max t k j (by omega)
theorem bestT_first (t : Nat → Int) : ∀ k j, j < bestT t k → t j < t (bestT t k)
  | 0, j, h => by simp [bestT] at h
  | k + 1, j, h => by
    by_cases hb : t (bestT t k) < t (k + 1)
    · rw [bestT_yes hb] at h ⊢
      have := bestT_max t k j (by omega)
      omega
    · rw [bestT_no hb] at h ⊢
      exact bestT_first t k j h
/-- The least of 0 and the first k changes, minus: the least counter that keeps them. -/
def lowC (t : Nat → Int) : Nat → Int
  | 0 => 0
  | k + 1 => if t k < lowC t k then t k else lowC t k
theorem lowC_le (t : Nat → Int) : ∀ k, lowC t k ≤ 0 ∧ ∀ j, j < k → lowC t k ≤ t j
  | 0 => ⟨Int.le_refl _, fun j h => by omega⟩
  | k + 1 => by
    obtain ⟨h0, h1⟩ := lowC_le t k
    rw [lowC]
    refine ⟨by split <;> omega, fun j hj => ?_⟩
    by_cases e : j = k
    · rw [e]; split <;> omega
    · have := h1 j (by omega)
      split <;> omega
theorem lowC_mem (t : Nat → Int) : ∀ k, lowC t k = 0 ∨ ∃ j, j < k ∧ lowC t k = t j
  | 0 => .inl rfl
  | k + 1 => by
    rw [lowC]
    split
    · exact .inr ⟨k, by omega, rfl⟩
    · rcases lowC_mem t k with h | ⟨j, hj, h⟩
      · exact .inl h
      · exact .inr ⟨j, by omega, h⟩
end Go.Proofs.Ytmmjbdffpgohdaa
