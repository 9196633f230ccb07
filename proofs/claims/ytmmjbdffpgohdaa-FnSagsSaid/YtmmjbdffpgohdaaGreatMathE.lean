/- Where the sag is greatest, in plain words. No condition. -/
import Derived.Test.YtmmjbdffpgohdaaEndN
namespace Go.Proofs.Ytmmjbdffpgohdaa
open Go.RowKit
set_option linter.unusedVariables false
/-- What the sag grows with, at a place. -/
def sE (l : List Sup) (p : Nat) : Int := pX l (p : Int) * pY l (p : Int)
/-- The first one of the first k + 1 places where it is greatest. -/
def mxN (l : List Sup) : Nat → Nat
  | 0 => 0
  | k + 1 => if sE l (mxN l k) < sE l (k + 1) then k + 1 else mxN l k
/-- The first one of the first k + 1 spans that is longest. -/
def lgN (l : List Sup) : Nat → Nat
  | 0 => 0
  | k + 1 => if slen l (lgN l k) < slen l (k + 1) then k + 1 else lgN l k
theorem lgN_le (l : List Sup) : ∀ k, lgN l k ≤ k
  | 0 => Nat.le_refl _
  | k + 1 => by
    have := lgN_le l k
    unfold lgN
    split <;> omega
theorem mxN_le (l : List Sup) : ∀ k, mxN l k ≤ k
  | 0 => Nat.le_refl _
  | k + 1 => by
    have := mxN_le l k
    unfold mxN
    split <;> omega
theorem lgN_max (l : List Sup) : ∀ k i, i ≤ k → slen l i ≤ slen l (lgN l k)
  | 0, i, h => by obtain rfl : i = 0 := by omega
                  exact Int.le_refl _
  | k + 1, i, h => by
    unfold lgN
    split
    · rename_i hlt
      by_cases e : i = k + 1
      · subst e; exact Int.le_refl _
      · have := lgN_max l k i (by omega); omega
    · rename_i hlt
      by_cases e : i = k + 1
      · subst e; omega
      · exact lgN_max l k i (by omega)
theorem lgN_first (l : List Sup) : ∀ k i, i < lgN l k → slen l i < slen l (lgN l k)
  | 0, i, h => by unfold lgN at h; omega
  | k + 1, i, h => by
    unfold lgN at h ⊢
    split
    · rename_i hlt
      rw [if_pos hlt] at h
      have := lgN_max l k i (by omega)
      omega
    · rename_i hlt
      rw [if_neg hlt] at h
      exact lgN_first l k i h
/-- A place at which nothing is greater, and everything before is less, is the one that is found. -/
theorem mxN_eq {l : List Sup} {q : Nat} : ∀ k, q ≤ k → (∀ p, p ≤ k → sE l p ≤ sE l q) → (∀ p, p < q → sE l p < sE l q) → mxN l k = q
  | 0, h, _, _ => by unfold mxN; omega
  | k + 1, h, h1, h2 => by
    unfold mxN
    by_cases e : q = k + 1
    · subst e
      have := mxN_le l k
      rw [if_pos (h2 _ (by omega))]
    · rw [mxN_eq k (by omega) (fun p hp => h1 p (by omega)) h2, if_neg (by have := h1 (k + 1) (Nat.le_refl _); omega)]
/-- Halves multiplied. -/
theorem half_le {x y s : Int} (hx : 0 ≤ x) (hy : 0 ≤ y) (h : x + y = s) : x * y ≤ s / 2 * (s - s / 2) := by
  have e : s = 2 * (s / 2) + s % 2 := by omega
  have m0 : 0 ≤ s % 2 := by omega
  have m1 : s % 2 < 2 := by omega
  generalize s / 2 = a at *
  generalize s % 2 = b at *
  subst e
  obtain ⟨d, hd⟩ : ∃ d, d = x - a := ⟨_, rfl⟩
  have hxe : x = a + d := by omega
  have hye : y = a + b - d := by omega
  subst hxe hye
  have hk : (a + d) * (a + b - d) = a * (a + b) + d * (b - d) := by grind
  have hr : 2 * a + b - a = a + b := by omega
  rw [hk, hr]
  have : d * (b - d) ≤ 0 := by
    rcases (by omega : b = 0 ∨ b = 1) with rfl | rfl
    · have e1 : d * (0 - d) = -(d * d) := by grind
      have e2 : 0 ≤ d * d := by
        rcases Int.le_total 0 d with h | h
        · exact Int.mul_nonneg h h
        · exact Int.mul_nonneg_of_nonpos_of_nonpos h h
      rw [e1]
      omega
    · rcases Int.le_total d 0 with h | h
      · exact Int.mul_nonpos_of_nonpos_of_nonneg h (by omega)
      · by_cases h1 : d = 0
        · subst h1; simp
        · exact Int.mul_nonpos_of_nonneg_of_nonpos h (by omega)
  omega
/-- Short of the middle it is less. -/
theorem half_lt {x y s : Int} (hx : 0 ≤ x) (h : x + y = s) (hl : x < s / 2) : x * y < s / 2 * (s - s / 2) := by
  have m1 : s % 2 < 2 := by omega
  have e : s = 2 * (s / 2) + s % 2 := by omega
  have m0 : 0 ≤ s % 2 := by omega
  generalize s / 2 = a at *
  generalize s % 2 = b at *
  subst e
  obtain ⟨d, hd⟩ : ∃ d, d = a - x := ⟨_, rfl⟩
  have hxe : x = a - d := by omega
  have hye : y = a + b + d := by omega
  subst hxe hye
  have hk : (a - d) * (a + b + d) = a * (a + b) - d * (b + d) := by grind
  have hr : 2 * a + b - a = a + b := by omega
  rw [hk, hr]
  have : 0 < d * (b + d) := Int.mul_pos (by omega) (by omega)
  omega
theorem half_mono {s t : Int} (h0 : 0 < s) (h : s < t) : s / 2 * (s - s / 2) < t / 2 * (t - t / 2) := by
  have a1 : s / 2 ≤ t / 2 := by omega
  have a2 : s - s / 2 ≤ t - t / 2 := by omega
  have b0 : 0 ≤ s / 2 := by omega
  have b1 : 0 < s - s / 2 := by omega
  rcases (by omega : s / 2 < t / 2 ∨ s - s / 2 < t - t / 2 ∧ s / 2 = t / 2) with h1 | ⟨h1, h2⟩
  · have k1 : s / 2 * (s - s / 2) < t / 2 * (s - s / 2) := Int.mul_lt_mul_of_pos_right h1 b1
    have k2 : t / 2 * (s - s / 2) ≤ t / 2 * (t - t / 2) := Int.mul_le_mul_of_nonneg_left a2 (by omega)
    omega
  · have h3 : 0 < s / 2 := by omega
    rw [← h2]
    exact Int.mul_lt_mul_of_pos_left (by omega) h3
/-- The program's place: the middle of the first longest span. -/
def gsQ (l : List Sup) : Int := (nth l (lgN l (l.length - 2))).a + slen l (lgN l (l.length - 2)) / 2
structure MidAt (l : List Sup) : Prop where
  lo : 0 ≤ gsQ l
  hi : gsQ l ≤ (endN l : Int)
  eq : (mxN l (endN l) : Int) = gsQ l
theorem mid_ok {l : List Sup} (hl : IsL l) : MidAt l := by
  have h2 := hl.two
  have hg := lgN_le l (l.length - 2)
  have hlt : lgN l (l.length - 2) + 1 < l.length := by omega
  have hmax := lgN_max l (l.length - 2)
  have hfst := lgN_first l (l.length - 2)
  have he := (endN_eq hl).1
  have hb := slen_bd hl hlt
  have hm := hl.mono (l.length - 1 - (lgN l (l.length - 2) + 1)) (lgN l (l.length - 2) + 1) (by omega)
  have e1 : lgN l (l.length - 2) + 1 + (l.length - 1 - (lgN l (l.length - 2) + 1)) = l.length - 1 := by omega
  rw [e1] at hm
  have ha := (hl.bd (i := lgN l (l.length - 2)) (by omega)).1
  generalize hz : lgN l (l.length - 2) = z at *
  have hsl : slen l z = (nth l (z + 1)).a - (nth l z).a := rfl
  have hq : gsQ l = (nth l z).a + slen l z / 2 := by unfold gsQ; rw [hz]
  have hlo : 0 ≤ gsQ l := by rw [hq]; omega
  have hhi : gsQ l ≤ (endN l : Int) := by rw [hq, he]; omega
  refine ⟨hlo, hhi, ?_⟩
  -- what lies at a place
  have AT : ∀ p : Nat, p ≤ endN l → ∃ i, i + 1 < l.length ∧ spanN l (p : Int) = i ∧ (nth l i).a ≤ (p : Int) ∧ (p : Int) ≤ (nth l (i + 1)).a ∧ sE l p = ((p : Int) - (nth l i).a) * ((nth l (i + 1)).a - (p : Int)) := by
    intro p hp
    have ho := onAt (on_of hl hp)
    exact ⟨_, ho.lt, rfl, ho.lo, ho.hi, rfl⟩
  have hval : ∀ p : Nat, p ≤ endN l → sE l p ≤ slen l z / 2 * (slen l z - slen l z / 2) := by
    intro p hp
    obtain ⟨i, hi, _, h3, h4, h5⟩ := AT p hp
    rw [h5]
    have k1 := half_le (x := (p : Int) - (nth l i).a) (y := (nth l (i + 1)).a - (p : Int)) (s := slen l i) (by omega) (by omega) (by unfold slen; omega)
    have k2 := hmax i (by omega)
    have k3 := slen_bd hl hi
    rcases Int.lt_or_eq_of_le k2 with k | k
    · have := half_mono k3.1 k; omega
    · rw [k] at k1; exact k1
  by_cases h1 : slen l z = 1
  · -- every span is one meter long
    have hall : ∀ i, i + 1 < l.length → slen l i = 1 := fun i hi => by
      have a1 := hmax i (by omega)
      have a2 := (slen_bd hl hi).1
      omega
    have hz0 : z = 0 := by
      by_cases e : z = 0
      · exact e
      · have a1 := hfst 0 (by omega)
        have a2 := hall 0 (by omega)
        omega
    have hq0 : gsQ l = 0 := by rw [hq, hz0, hl.a0, hall 0 (by omega)]; rfl
    rw [hq0]
    have hs0 : ∀ p : Nat, p ≤ endN l → sE l p = 0 := by
      intro p hp
      obtain ⟨i, hi, _, h3, h4, h5⟩ := AT p hp
      have a1 : (nth l (i + 1)).a - (nth l i).a = 1 := hall i hi
      rw [h5]
      rcases (by omega : (p : Int) - (nth l i).a = 0 ∨ (nth l (i + 1)).a - (p : Int) = 0) with e | e
      · rw [e]; simp
      · rw [e]; simp
    have := mxN_eq (l := l) (q := 0) (endN l) (Nat.zero_le _) (fun p hp => by rw [hs0 p hp, hs0 0 (Nat.zero_le _)]; exact Int.le_refl _) (fun p hp => by omega)
    omega
  · have hs2 : 2 ≤ slen l z := by omega
    obtain ⟨q, hqn⟩ : ∃ q : Nat, (q : Int) = gsQ l := ⟨(gsQ l).toNat, Int.toNat_of_nonneg hlo⟩
    have hqe : q ≤ endN l := by omega
    have hsp : spanN l (q : Int) = z := by
      refine spanN_eq hlt ?_ ?_
      · rw [hqn, hq]; omega
      · intro j hj
        have hmo := hl.mono (z - (j + 1)) (j + 1) (by omega)
        have e2 : j + 1 + (z - (j + 1)) = z := by omega
        rw [e2] at hmo
        rw [hqn, hq]
        omega
    have hsq : sE l q = slen l z / 2 * (slen l z - slen l z / 2) := by
      unfold sE pX pY
      rw [hsp, hqn, hq]
      have e2 : (nth l z).a + slen l z / 2 - (nth l z).a = slen l z / 2 := by omega
      have e3 : (nth l (z + 1)).a - ((nth l z).a + slen l z / 2) = slen l z - slen l z / 2 := by omega
      rw [e2, e3]
    have := mxN_eq (l := l) (q := q) (endN l) hqe (fun p hp => by rw [hsq]; exact hval p hp) (fun p hp => by
      rw [hsq]
      obtain ⟨i, hi, hs, h3, h4, h5⟩ := AT p (by omega)
      have hiz : i ≤ z := by
        rcases Nat.lt_or_ge z i with h | h
        · exfalso
          rw [← hs] at h
          have := spanN_least h
          omega
        · exact h
      rw [h5]
      rcases Nat.lt_or_eq_of_le hiz with hlt2 | rfl
      · have k1 := half_le (x := (p : Int) - (nth l i).a) (y := (nth l (i + 1)).a - (p : Int)) (s := slen l i) (by omega) (by omega) (by unfold slen; omega)
        have k2 := half_mono (slen_bd hl hi).1 (hfst i hlt2)
        omega
      · exact half_lt (by omega) (by unfold slen; omega) (by omega))
    omega
end Go.Proofs.Ytmmjbdffpgohdaa
