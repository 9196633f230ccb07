/- Sags in plain words. No condition. -/
import Derived.Test.YtmmjbdffpgohdaaSumC
import Derived.Test.YtmmjbdffpgohdaaRopeC
namespace Go.Proofs.Ytmmjbdffpgohdaa
open Go.RowKit
set_option linter.unusedVariables false
/-- The distances of a place from both ends of its span. -/
def pX (l : List Sup) (p : Int) : Int := p - (nth l (spanN l p)).a
def pY (l : List Sup) (p : Int) : Int := (nth l (spanN l p + 1)).a - p
theorem pXY (l : List Sup) (p : Int) : pX l p + pY l p = slen l (spanN l p) := by unfold pX pY slen; omega
/-- What is known of them. -/
structure XYOk (x y s : Int) : Prop where
  x0 : 0 ≤ x
  y0 : 0 ≤ y
  sum : x + y = s
  s0 : 0 < s
  s1 : s ≤ 3000
theorem xyOk {l : List Sup} {p : Int} (h : OnAt l p (spanN l p)) : XYOk (pX l p) (pY l p) (slen l (spanN l p)) := by
  have h1 := slen_bd h.line h.lt
  have h2 := h.lo
  have h3 := h.hi
  exact ⟨by unfold pX; omega, by unfold pY; omega, pXY l p, h1.1, h1.2⟩
theorem mulBd {x y A B : Int} (h0 : 0 ≤ x) (h1 : x ≤ A) (h2 : 0 ≤ y) (h3 : y ≤ B) : 0 ≤ x * y ∧ x * y ≤ A * B :=
  ⟨Int.mul_nonneg h0 h2, Int.mul_le_mul h1 h3 h2 (by omega)⟩
theorem XYOk.bd {x y s : Int} (h : XYOk x y s) : 0 ≤ x * y ∧ x * y ≤ 9000000 := by
  have := h.x0; have := h.y0; have := h.sum; have := h.s1
  exact mulBd (A := 3000) (B := 3000) h.x0 (by omega) h.y0 (by omega)
/-- Two and three fractions together. -/
theorem sum1 (a b : Int) (hb : 0 < b) : sumF [⟨a, b⟩] = ⟨rN a b, rD a b⟩ := by
  show stepF ⟨0, 1⟩ ⟨a, b⟩ = _
  unfold stepF
  have e1 : (0 : Int) * b + a * 1 = a := by omega
  have e2 : (1 : Int) * b = b := by omega
  simp only [e1, e2]
theorem sum2 (a b c d : Int) (hb : 0 < b) (hd : 0 < d) : sumF [⟨a, b⟩, ⟨c, d⟩] = ⟨rN (a * d + c * b) (b * d), rD (a * d + c * b) (b * d)⟩ := by
  have h : sumF [⟨a, b⟩, ⟨c, d⟩] = stepF (sumF [⟨a, b⟩]) ⟨c, d⟩ := rfl
  rw [h, sum1 a b hb]
  unfold stepF
  obtain ⟨h1, h2⟩ := r_add (a := a) (c := c) hb hd
  simp only [h1, h2]
theorem sum3 (a b c d e f : Int) (hb : 0 < b) (hd : 0 < d) (hf : 0 < f) : sumF [⟨a, b⟩, ⟨c, d⟩, ⟨e, f⟩] = ⟨rN ((a * d + c * b) * f + e * (b * d)) (b * d * f), rD ((a * d + c * b) * f + e * (b * d)) (b * d * f)⟩ := by
  have h : sumF [⟨a, b⟩, ⟨c, d⟩, ⟨e, f⟩] = stepF (sumF [⟨a, b⟩, ⟨c, d⟩]) ⟨e, f⟩ := rfl
  rw [h, sum2 a b c d hb hd]
  unfold stepF
  obtain ⟨h1, h2⟩ := r_add (a := a * d + c * b) (c := e) (Int.mul_pos hb hd) hf
  simp only [h1, h2]
theorem absMul {x y A B : Int} (h0 : -A ≤ x) (h1 : x ≤ A) (h2 : 0 ≤ y) (h3 : y ≤ B) : -(A * B) ≤ x * y ∧ x * y ≤ A * B := by
  have hA : 0 ≤ A := by omega
  rcases Int.le_total 0 x with h | h
  · have := mulBd h h1 h2 h3
    have := Int.mul_nonneg hA (Int.le_trans h2 h3)
    omega
  · have := mulBd (x := -x) (A := A) (by omega) (by omega) h2 h3
    rw [Int.neg_mul] at this
    have := Int.mul_nonneg hA (Int.le_trans h2 h3)
    omega
/-- Bounds that keep every step of a sum of two or three fractions within an int. -/
theorem fine1 {a b : Int} (A B : Int) (ha : -A ≤ a ∧ a ≤ A) (hb : 0 < b ∧ b ≤ B) (hA : A ≤ 576460752303423488) (hB : B ≤ 1152921504606846976) : FineS ⟨0, 1⟩ ⟨a, b⟩ := by
  unfold FineS
  simp only [Int.zero_mul, Int.mul_one, Int.one_mul]
  omega
theorem fine2 {a b c d : Int} (A B C D : Int) (ha : -A ≤ a ∧ a ≤ A) (hb : 0 < b ∧ b ≤ B) (hc : -C ≤ c ∧ c ≤ C) (hd : 0 < d ∧ d ≤ D)
    (h1 : A ≤ 576460752303423488) (h2 : B ≤ 1152921504606846976) (h3 : A * D ≤ 576460752303423488) (h4 : C * B ≤ 576460752303423488) (h5 : B * D ≤ 1152921504606846976) : Fine [⟨a, b⟩, ⟨c, d⟩] := by
  intro k hk
  have hk : k < 2 := hk
  by_cases h0 : k = 0
  · subst h0; exact fine1 A B ha hb h1 h2
  · obtain rfl : k = 1 := by omega
    show FineS (sumF [⟨a, b⟩]) ⟨c, d⟩
    rw [sum1 a b hb.1]
    have q1 := rN_bd (B := A) hb.1 ha.1 ha.2
    have q2 := rD_pos (n := a) hb.1
    have q3 := rD_le (n := a) hb.1
    have m1 := absMul q1.1 q1.2 (by omega : 0 ≤ d) hd.2
    have m2 := absMul hc.1 hc.2 (by omega : 0 ≤ rD a b) (by omega : rD a b ≤ B)
    have m3 := mulBd (by omega : 0 ≤ rD a b) (by omega : rD a b ≤ B) (by omega : 0 ≤ d) hd.2
    have m4 := Int.mul_pos q2 hd.1
    unfold FineS
    dsimp only
    omega
theorem fine3 {a b c d e f : Int} (A B C D E F : Int) (ha : -A ≤ a ∧ a ≤ A) (hb : 0 < b ∧ b ≤ B) (hc : -C ≤ c ∧ c ≤ C) (hd : 0 < d ∧ d ≤ D) (he : -E ≤ e ∧ e ≤ E) (hf : 0 < f ∧ f ≤ F)
    (h1 : A ≤ 576460752303423488) (h2 : B ≤ 1152921504606846976) (h3 : A * D ≤ 576460752303423488) (h4 : C * B ≤ 576460752303423488) (h5 : B * D ≤ 1152921504606846976)
    (h6 : (A * D + C * B) * F ≤ 576460752303423488) (h7 : E * (B * D) ≤ 576460752303423488) (h8 : B * D * F ≤ 1152921504606846976) : Fine [⟨a, b⟩, ⟨c, d⟩, ⟨e, f⟩] := by
  intro k hk
  have hk : k < 3 := hk
  by_cases h0 : k < 2
  · have := fine2 A B C D ha hb hc hd h1 h2 h3 h4 h5 k h0
    rcases (by omega : k = 0 ∨ k = 1) with rfl | rfl <;> exact this
  · obtain rfl : k = 2 := by omega
    show FineS (sumF [⟨a, b⟩, ⟨c, d⟩]) ⟨e, f⟩
    rw [sum2 a b c d hb.1 hd.1]
    have hbd := Int.mul_pos hb.1 hd.1
    have k1 := absMul ha.1 ha.2 (by omega : 0 ≤ d) hd.2
    have k2 := absMul hc.1 hc.2 (by omega : 0 ≤ b) hb.2
    have k3 := mulBd (by omega : 0 ≤ b) hb.2 (by omega : 0 ≤ d) hd.2
    have q1 := rN_bd (n := a * d + c * b) (B := A * D + C * B) hbd (by omega) (by omega)
    have q2 := rD_pos (n := a * d + c * b) hbd
    have q3 := rD_le (n := a * d + c * b) hbd
    generalize rN (a * d + c * b) (b * d) = N at *
    generalize rD (a * d + c * b) (b * d) = M at *
    have m1 := absMul q1.1 q1.2 (by omega : 0 ≤ f) hf.2
    have m2 := absMul he.1 he.2 (by omega : 0 ≤ M) (by omega : M ≤ B * D)
    have m3 := mulBd (by omega : 0 ≤ M) (by omega : M ≤ B * D) (by omega : 0 ≤ f) hf.2
    have m4 := Int.mul_pos q2 hf.1
    unfold FineS
    dsimp only
    omega
/-- The sag: its numerator and denominator, and the same with a load. -/
noncomputable def sgN (l : List Sup) (r : Rp) (p : Int) : Int := if sgOk l r p then rN (r.w * (pX l p * pY l p)) (2 * r.p) else 0
noncomputable def sgD (l : List Sup) (r : Rp) (p : Int) : Int := if sgOk l r p then rD (r.w * (pX l p * pY l p)) (2 * r.p) else 0
noncomputable def ldOk (l : List Sup) (r : Rp) (p q : Int) : Bool := sgOk l r p && inR q 0 20000
noncomputable def ldRaw (l : List Sup) (r : Rp) (p q : Int) : Int := r.w * (pX l p * pY l p) * slen l (spanN l p) + 2 * q * (pX l p * pY l p)
noncomputable def ldN (l : List Sup) (r : Rp) (p q : Int) : Int := if ldOk l r p q then rN (ldRaw l r p q) (2 * r.p * slen l (spanN l p)) else 0
noncomputable def ldD (l : List Sup) (r : Rp) (p q : Int) : Int := if ldOk l r p q then rD (ldRaw l r p q) (2 * r.p * slen l (spanN l p)) else 0
/-- Without a load it is the sag. -/
theorem ld_zero (l : List Sup) (r : Rp) (p : Int) : ldN l r p 0 = sgN l r p ∧ ldD l r p 0 = sgD l r p ∧ ldOk l r p 0 = sgOk l r p := by
  have h0 : ldOk l r p 0 = sgOk l r p := by simp [ldOk, inR]
  refine ⟨?_, ?_, h0⟩
  all_goals simp only [ldN, ldD, sgN, sgD, h0]
  all_goals cases h : sgOk l r p with
  | false => rfl
  | true =>
    unfold sgOk at h
    rw [Bool.and_eq_true, isR_iff] at h
    have hx := (xyOk (onAt h.1)).s0
    have hp : 0 < 2 * r.p := by omega
    obtain ⟨h1, h2⟩ := r_eq (n := ldRaw l r p 0) (n' := r.w * (pX l p * pY l p)) (d' := 2 * r.p) (Int.mul_pos hp hx) hp (by
      unfold ldRaw
      generalize pX l p * pY l p = E
      generalize slen l (spanN l p) = S
      grind)
    simp [h1, h2]
/-- The program's sum of the sag and of what the load adds. -/
theorem ld_sum {w p q e s : Int} (hp : 0 < p) (hs : 0 < s) : rN (w * e * (s * p) + q * e * (2 * p)) (2 * p * (s * p)) = rN (w * e * s + 2 * q * e) (2 * p * s) ∧ rD (w * e * (s * p) + q * e * (2 * p)) (2 * p * (s * p)) = rD (w * e * s + 2 * q * e) (2 * p * s) :=
  r_eq (Int.mul_pos (by omega) (Int.mul_pos hs hp)) (Int.mul_pos (by omega) hs) (by grind)
end Go.Proofs.Ytmmjbdffpgohdaa
