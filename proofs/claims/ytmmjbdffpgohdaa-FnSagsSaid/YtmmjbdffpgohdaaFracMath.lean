/- Fractions in lowest terms. No condition. -/
import Derived.Test.YtmmjbdffpgohdaaRows
namespace Go.Proofs.Ytmmjbdffpgohdaa
set_option linter.unusedVariables false
/-- The greatest common divisor. -/
def gA (n d : Int) : Int := (Int.gcd n d : Int)
/-- The numerator and the denominator of n / d in lowest terms. -/
def rN (n d : Int) : Int := n / gA n d
def rD (n d : Int) : Int := d / gA n d
theorem gA_pos {n d : Int} (hd : 0 < d) : 0 < gA n d := by
  unfold gA
  have : 0 < Int.gcd n d := Int.gcd_pos_of_ne_zero_right _ (by omega)
  omega
theorem rN_mul (n d : Int) : rN n d * gA n d = n := Int.ediv_mul_cancel (Int.gcd_dvd_left _ _)
theorem rD_mul (n d : Int) : rD n d * gA n d = d := Int.ediv_mul_cancel (Int.gcd_dvd_right _ _)
theorem rD_pos {n d : Int} (hd : 0 < d) : 0 < rD n d := by
  have h := rD_mul n d
  have g := gA_pos (n := n) hd
  by_cases hp : 0 < rD n d
  · exact hp
  · exfalso
    have : rD n d * gA n d ≤ 0 := Int.mul_nonpos_of_nonpos_of_nonneg (by omega) (by omega)
    omega
theorem rD_le {n d : Int} (hd : 0 < d) : rD n d ≤ d := Int.ediv_le_self _ (by omega)
theorem rN_bd {n d B : Int} (hd : 0 < d) (h0 : -B ≤ n) (h1 : n ≤ B) : -B ≤ rN n d ∧ rN n d ≤ B := by
  have h := rN_mul n d
  have g := gA_pos (n := n) hd
  generalize rN n d = x at *
  generalize gA n d = y at *
  rcases Int.le_total 0 x with hx | hx
  · have : x * 1 ≤ x * y := Int.mul_le_mul_of_nonneg_left (by omega) hx
    omega
  · have : x * y ≤ x * 1 := Int.mul_le_mul_of_nonpos_left hx (by omega)
    omega
theorem r_cross (n d : Int) : rN n d * d = n * rD n d := by
  have h1 := rN_mul n d
  have h2 := rD_mul n d
  generalize rN n d = x at *
  generalize rD n d = y at *
  generalize gA n d = g at *
  subst h1
  rw [← h2]
  grind
theorem r_eq {n d n' d' : Int} (hd : 0 < d) (hd' : 0 < d') (h : n * d' = n' * d) : rN n d = rN n' d' ∧ rD n d = rD n' d' := by
  have hg : gA n d * d' = gA n' d' * d := by
    have e1 : Int.gcd (n * d') (d * d') = Int.gcd n d * d'.natAbs := Int.gcd_mul_right _ _ _
    have e2 : Int.gcd (n' * d) (d' * d) = Int.gcd n' d' * d.natAbs := Int.gcd_mul_right _ _ _
    rw [h, Int.mul_comm d d', e2] at e1
    have a1 : (d'.natAbs : Int) = d' := by omega
    have a2 : (d.natAbs : Int) = d := by omega
    unfold gA
    have := congrArg (Nat.cast : Nat → Int) e1
    simp only [Int.natCast_mul] at this
    rw [a1, a2] at this
    exact this.symm
  have p1 := gA_pos (n := n) hd
  have p2 := gA_pos (n := n') hd'
  have m1 := rN_mul n d
  have m2 := rD_mul n d
  have m3 := rN_mul n' d'
  have m4 := rD_mul n' d'
  have q := rD_pos (n := n) hd
  generalize rN n d = a at *
  generalize rD n d = b at *
  generalize rN n' d' = a' at *
  generalize rD n' d' = b' at *
  generalize gA n d = g at *
  generalize gA n' d' = g' at *
  subst m1 m2 m3 m4
  have hb : b = b' := by
    have : g * g' * b' = g * g' * b := by grind
    have := Int.eq_of_mul_eq_mul_left (by have := Int.mul_pos p1 p2; omega) this
    exact this.symm
  subst hb
  refine ⟨?_, rfl⟩
  have hpp := Int.mul_pos (Int.mul_pos p1 p2) q
  have : g * g' * b * a = g * g' * b * a' := by grind
  exact Int.eq_of_mul_eq_mul_left (by omega) this
theorem r_unit (n : Int) : rN n 1 = n ∧ rD n 1 = 1 := by
  have h : gA n 1 = 1 := by simp [gA]
  simp [rN, rD, h]
theorem r_null {d : Int} (hd : 0 < d) : rN 0 d = 0 ∧ rD 0 d = 1 := by
  obtain ⟨h1, h2⟩ := r_eq (n := 0) (n' := 0) hd (by omega : (0:Int) < 1) (by simp)
  rw [h1, h2]; exact r_unit 0
/-- One step of a sum of fractions: what is summed so far may be in lowest terms. -/
theorem r_add {a b c d : Int} (hb : 0 < b) (hd : 0 < d) :
    rN (rN a b * d + c * rD a b) (rD a b * d) = rN (a * d + c * b) (b * d) ∧ rD (rN a b * d + c * rD a b) (rD a b * d) = rD (a * d + c * b) (b * d) := by
  have h := r_cross a b
  have p := rD_pos (n := a) hb
  refine r_eq (Int.mul_pos p hd) (Int.mul_pos hb hd) ?_
  generalize rN a b = x at *
  generalize rD a b = y at *
  have : (x * d + c * y) * (b * d) = (x * b) * d * d + c * y * b * d := by grind
  rw [this, h]
  grind
/-- A fraction whose numerator and denominator were divided may be taken whole: more of the same kind. -/
theorem r_idem {n d : Int} (hd : 0 < d) : rN (rN n d) (rD n d) = rN n d ∧ rD (rN n d) (rD n d) = rD n d :=
  r_eq (rD_pos hd) hd (r_cross n d)
/-- a / b is less than c / d, the denominators positive. -/
def frLt (a b c d : Int) : Prop := a * d < c * b
instance (a b c d : Int) : Decidable (frLt a b c d) := inferInstanceAs (Decidable (a * d < c * b))
theorem pos_lt {g x y : Int} (hg : 0 < g) : g * x < g * y ↔ x < y := by
  constructor
  · intro h
    rcases Int.lt_or_le x y with h1 | h1
    · exact h1
    · have := Int.mul_le_mul_of_nonneg_left h1 (by omega : 0 ≤ g); omega
  · intro h; exact Int.mul_lt_mul_of_pos_left h hg
theorem frLt_r {a b c d : Int} (hb : 0 < b) (hd : 0 < d) : frLt (rN a b) (rD a b) (rN c d) (rD c d) ↔ frLt a b c d := by
  have m1 := rN_mul a b
  have m2 := rD_mul a b
  have m3 := rN_mul c d
  have m4 := rD_mul c d
  have p1 := gA_pos (n := a) hb
  have p2 := gA_pos (n := c) hd
  unfold frLt
  generalize rN a b = x at *
  generalize rD a b = y at *
  generalize rN c d = z at *
  generalize rD c d = u at *
  generalize gA a b = g at *
  generalize gA c d = g' at *
  subst m1 m2 m3 m4
  have e1 : x * g * (u * g') = g * g' * (x * u) := by grind
  have e2 : z * g' * (y * g) = g * g' * (z * y) := by grind
  rw [e1, e2, pos_lt (Int.mul_pos p1 p2)]
theorem frLt_trans {a b c d e f : Int} (hb : 0 < b) (hd : 0 < d) (hf : 0 < f) (h1 : ¬ frLt c d a b) (h2 : ¬ frLt e f c d) : ¬ frLt e f a b := by
  unfold frLt at *
  intro h
  have h1' : a * d ≤ c * b := by omega
  have h2' : c * f ≤ e * d := by omega
  have k1 : a * d * f ≤ c * b * f := Int.mul_le_mul_of_nonneg_right h1' (by omega)
  have k2 : c * f * b ≤ e * d * b := Int.mul_le_mul_of_nonneg_right h2' (by omega)
  have k3 : d * (e * b) < d * (a * f) := Int.mul_lt_mul_of_pos_left h hd
  have e1 : a * d * f = d * (a * f) := by grind
  have e2 : c * f * b = c * b * f := by grind
  have e3 : e * d * b = d * (e * b) := by grind
  omega
/-- The quotient that Go takes. -/
theorem tdiv_r (n d : Int) : Int.tdiv n (gA n d) = rN n d := Int.tdiv_eq_ediv_of_dvd (Int.gcd_dvd_left _ _)
end Go.Proofs.Ytmmjbdffpgohdaa
