/- Circles of chapter 8 as plain numbers: gaps, ways, passes, the next pass, places. Condition: sizes. -/
import Derived.Test.YtmmjbdffpgohdaaRd
namespace Go.Proofs.Ytmmjbdffpgohdaa
set_option linter.unusedVariables false
theorem emod_range {a b : Int} (hb : 0 < b) : 0 ≤ a % b ∧ a % b < b := ⟨Int.emod_nonneg _ (by omega), Int.emod_lt_of_pos _ hb⟩
theorem ediv_lo {a b : Int} (hb : 0 < b) : b * (a / b) ≤ a := Int.mul_ediv_self_le (by omega)
theorem ediv_hi {a b : Int} (hb : 0 < b) : a < b * (a / b) + b := by
  have h := Int.lt_mul_ediv_self_add (x := a) hb
  omega
/-- a quotient is told by its bounds -/
theorem ediv_is {a b q : Int} (hb : 0 < b) (h1 : b * q ≤ a) (h2 : a < b * q + b) : a / b = q := by
  have h3 := ediv_lo (a := a) hb
  have h4 := ediv_hi (a := a) hb
  have h5 : b * (a / b) < b * (q + 1) := by rw [Int.mul_add, Int.mul_one]; omega
  have h6 : b * q < b * (a / b + 1) := by rw [Int.mul_add, Int.mul_one]; omega
  have h7 := Int.lt_of_mul_lt_mul_left h5 (by omega)
  have h8 := Int.lt_of_mul_lt_mul_left h6 (by omega)
  omega
/-- the decimeters from a start to a place -/
def wayOf (L s p : Int) : Int := (10 * (p - s) + 10 * L) % (10 * L)
theorem wayOf_range {L s p : Int} (hL : 0 < L) : 0 ≤ wayOf L s p ∧ wayOf L s p < 10 * L := emod_range (by omega)
/-- how often a way is reached up to 'x' decimeters of a ring of 't' -/
def passOne (t x w : Int) : Int := if w ≤ x then 1 + (x - w) / t else 0
theorem passOne_nonneg {t x w : Int} (ht : 0 < t) : 0 ≤ passOne t x w := by
  unfold passOne
  split
  · have := Int.ediv_nonneg (show 0 ≤ x - w by omega) (show 0 ≤ t by omega)
    omega
  · omega
theorem passOne_pos {t x w : Int} (ht : 0 < t) (h : w ≤ x) : 0 < passOne t x w := by
  unfold passOne
  rw [if_pos h]
  have := Int.ediv_nonneg (show 0 ≤ x - w by omega) (show 0 ≤ t by omega)
  omega
theorem passOne_mono {t x y w : Int} (ht : 0 < t) (h : x ≤ y) : passOne t x w ≤ passOne t y w := by
  by_cases hw : w ≤ x
  · unfold passOne
    rw [if_pos hw, if_pos (by omega)]
    have := Int.ediv_le_ediv ht (show x - w ≤ y - w by omega)
    omega
  · have h0 := passOne_nonneg (t := t) (x := y) (w := w) ht
    have : passOne t x w = 0 := by unfold passOne; rw [if_neg hw]
    omega
theorem passOne_le {t x w : Int} (ht : 0 < t) (hx : 0 ≤ x) (hw : 0 ≤ w) : passOne t x w ≤ 1 + x / t := by
  unfold passOne
  split
  · have := Int.ediv_le_ediv ht (show x - w ≤ x by omega)
    omega
  · have := Int.ediv_nonneg hx (show 0 ≤ t by omega)
    omega
/-- how often some cabin of the first k comes -/
def passN (t x : Int) (f : Nat → Int) : Nat → Int
  | 0 => 0
  | k + 1 => passN t x f k + passOne t x (f k)
theorem passN_nonneg {t x : Int} {f : Nat → Int} (ht : 0 < t) : ∀ k, 0 ≤ passN t x f k
  | 0 => Int.le_refl _
  | k + 1 => by
    have h1 := passN_nonneg (x := x) (f := f) ht k
    have h2 := passOne_nonneg (t := t) (x := x) (w := f k) ht
    simp only [passN]
    omega
theorem passN_mono {t x y : Int} {f : Nat → Int} (ht : 0 < t) (h : x ≤ y) : ∀ k, passN t x f k ≤ passN t y f k
  | 0 => Int.le_refl _
  | k + 1 => by
    have h1 := passN_mono (f := f) ht h k
    have h2 := passOne_mono (t := t) (w := f k) ht h
    simp only [passN]
    omega
theorem passN_pos {t x : Int} {f : Nat → Int} (ht : 0 < t) : ∀ {k j : Nat}, j < k → f j ≤ x → 0 < passN t x f k
  | 0, j, hj, h => by omega
  | k + 1, j, hj, h => by
    have h1 := passN_nonneg (x := x) (f := f) ht k
    have h2 := passOne_nonneg (t := t) (x := x) (w := f k) ht
    simp only [passN]
    by_cases hk : j = k
    · subst hk
      have := passOne_pos (t := t) ht h
      omega
    · have := passN_pos (f := f) ht (show j < k by omega) h
      omega
theorem passN_le {t x : Int} {f : Nat → Int} (ht : 0 < t) (hx : 0 ≤ x) (hf : ∀ i, 0 ≤ f i) : ∀ k : Nat, passN t x f k ≤ k * (1 + x / t)
  | 0 => by simp [passN]
  | k + 1 => by
    have h1 := passN_le (f := f) ht hx hf k
    have h2 := passOne_le (t := t) ht hx (hf k)
    simp only [passN]
    have h3 : ((k + 1 : Nat) : Int) * (1 + x / t) = (k : Int) * (1 + x / t) + (1 + x / t) := by
      rw [show ((k + 1 : Nat) : Int) = (k : Int) + 1 by omega, Int.add_mul, Int.one_mul]
    omega
/-- the first way at or behind x, going on from w by rings of t -/
def nextW (t x w : Int) : Int := if w < x then w + t * ((x - w + t - 1) / t) else w
theorem nextW_ge {t x w : Int} (ht : 0 < t) : x ≤ nextW t x w := by
  unfold nextW
  split
  · have := ediv_hi (a := x - w + t - 1) ht
    omega
  · omega
theorem nextW_from {t x w : Int} (ht : 0 < t) : w ≤ nextW t x w := by
  have := nextW_ge (t := t) (x := x) (w := w) ht
  by_cases h : w < x
  · omega
  · unfold nextW
    rw [if_neg h]
    exact Int.le_refl _
theorem nextW_lt {t x w : Int} (ht : 0 < t) (h : w < x) : nextW t x w < x + t := by
  unfold nextW
  rw [if_pos h]
  have := ediv_lo (a := x - w + t - 1) ht
  omega
theorem nextW_rings {t x w : Int} : ∃ q : Int, nextW t x w = w + t * q := by
  unfold nextW
  split
  · exact ⟨_, rfl⟩
  · exact ⟨0, by simp⟩
/-- only one way is the first -/
theorem nextW_is {t x w v q : Int} (ht : 0 < t) (hw : w < x) (hv : v = w + t * q) (h1 : x ≤ v) (h2 : v < x + t) : nextW t x w = v := by
  unfold nextW
  rw [if_pos hw, ediv_is (q := q) ht (by omega) (by omega), hv]
theorem nextW_step {t x w q : Int} (ht : 0 < t) (hw : w < x) (h : w + t * q < x + t) : nextW t x (w + t * q) = nextW t x w := by
  have h1 := nextW_ge (t := t) (x := x) (w := w + t * q) ht
  obtain ⟨p, hp⟩ := nextW_rings (t := t) (x := x) (w := w + t * q)
  refine (nextW_is (q := q + p) ht hw (by rw [hp, Int.mul_add]; omega) h1 ?_).symm
  by_cases h2 : w + t * q < x
  · exact nextW_lt ht h2
  · unfold nextW
    rw [if_neg h2]
    exact h
/-- the step of the specification's loop: at least one ring, at most as many as fit -/
theorem next_step {t x w : Int} (ht : 0 < t) (hw : w < x) (q : Int) (hq : q = max 1 ((x - w) / t)) : nextW t x (w + t * q) = nextW t x w ∧ w < w + t * q ∧ w + t * q < x + t := by
  have h1 := ediv_lo (a := x - w) ht
  have h2 := ediv_hi (a := x - w) ht
  have hd := Int.ediv_nonneg (show 0 ≤ x - w by omega) (show 0 ≤ t by omega)
  by_cases h : 1 ≤ (x - w) / t
  · have hq2 : q = (x - w) / t := by omega
    have h3 : t * 1 ≤ t * q := Int.mul_le_mul_of_nonneg_left (by omega) (by omega)
    rw [← hq2] at h1 h2
    exact ⟨nextW_step ht hw (by omega), by omega, by omega⟩
  · have hq2 : q = 1 := by omega
    have h0 : (x - w) / t = 0 := by omega
    rw [h0] at h2
    subst hq2
    rw [Int.mul_one]
    have := nextW_step (t := t) (x := x) (w := w) (q := 1) ht hw (by omega)
    rw [Int.mul_one] at this
    exact ⟨this, by omega, by omega⟩
/-- the first least of f 0 .. f k -/
def amin (f : Nat → Int) : Nat → Nat
  | 0 => 0
  | k + 1 => if f (k + 1) < f (amin f k) then k + 1 else amin f k
theorem amin_le (f : Nat → Int) : ∀ k, amin f k ≤ k
  | 0 => Nat.le_refl _
  | k + 1 => by
    have := amin_le f k
    simp only [amin]
    split <;> omega
theorem amin_least (f : Nat → Int) : ∀ {k j : Nat}, j ≤ k → f (amin f k) ≤ f j
  | 0, j, h => by
    have : j = 0 := by omega
    subst this
    exact Int.le_refl _
  | k + 1, j, h => by
    simp only [amin]
    by_cases hk : j = k + 1
    · subst hk
      split <;> omega
    · have := amin_least f (show j ≤ k by omega)
      split <;> omega
/-- the second at or behind a way -/
def secOf (s v : Int) : Int := (v + s - 1) / s
theorem secOf_ge {s v x : Int} (hs : 0 < s) (h : s * x ≤ v) : x ≤ secOf s v := by
  unfold secOf
  exact Int.le_ediv_of_mul_le hs (by rw [Int.mul_comm]; omega)
theorem secOf_reached {s v : Int} (hs : 0 < s) : v ≤ s * secOf s v := by
  unfold secOf
  have := ediv_hi (a := v + s - 1) hs
  omega
/-- the place of a start at x decimeters -/
def placeAt (L s x : Int) : Int := (10 * s + x) % (10 * L)
theorem placeAt_range {L s x : Int} (hL : 0 < L) : 0 ≤ placeAt L s x ∧ placeAt L s x < 10 * L := emod_range (by omega)
/-- two places differ, around the ring, as the starts do -/
theorem place_way {L a b x g : Int} (hL : 0 < L) (hg : 0 ≤ g ∧ g < L) (h : b - a = g ∨ b - a = g - L) : (placeAt L b x - placeAt L a x + 10 * L) % (10 * L) = 10 * g := by
  have ht : (0 : Int) < 10 * L := by omega
  unfold placeAt
  have e1 := Int.emod_add_mul_ediv (10 * b + x) (10 * L)
  have e2 := Int.emod_add_mul_ediv (10 * a + x) (10 * L)
  generalize (10 * b + x) / (10 * L) = Q at *
  generalize (10 * a + x) / (10 * L) = P at *
  generalize (10 * b + x) % (10 * L) = B at *
  generalize (10 * a + x) % (10 * L) = A at *
  have key : ∃ c : Int, B - A + 10 * L = 10 * g + 10 * L * c := by
    rcases h with h | h
    · refine ⟨P - Q + 1, ?_⟩
      rw [Int.mul_add, Int.mul_sub, Int.mul_one]
      omega
    · refine ⟨P - Q, ?_⟩
      rw [Int.mul_sub]
      omega
  obtain ⟨c, hc⟩ := key
  rw [hc, Int.add_mul_emod_self_left]
  exact Int.emod_eq_of_lt (by omega) (by omega)
end Go.Proofs.Ytmmjbdffpgohdaa
