/- Fractions compared: the program by products of two words, the specification by Euclid's steps. Condition: sizes. -/
import Derived.Test.YtmmjbdffpgohdaaFracC
import Derived.Test.YtmmjbdffpgohdaaRatS
import Derived.Test.YtmmjbdffpgohdaaShelf
namespace Go.Proofs.Ytmmjbdffpgohdaa
open Go.RowKit
set_option linter.unusedVariables false
theorem u64_wrap_mod (n : Int) : IntKind.u64.wrap n = n % 18446744073709551616 := by simp [IntKind.wrap, IntKind.bits, IntKind.signed]
theorem absMul' {x y A B : Int} (h0 : -A ≤ x) (h1 : x ≤ A) (h2 : 0 ≤ y) (h3 : y ≤ B) : -(A * B) ≤ x * y ∧ x * y ≤ A * B := by
  have hA : 0 ≤ A := by omega
  have mb : ∀ {u : Int}, 0 ≤ u → u ≤ A → 0 ≤ u * y ∧ u * y ≤ A * B := fun {u} k0 k1 => ⟨Int.mul_nonneg k0 h2, Int.mul_le_mul k1 h3 h2 hA⟩
  have hAB := Int.mul_nonneg hA (Int.le_trans h2 h3)
  rcases Int.le_total 0 x with h | h
  · have := mb h h1; omega
  · have := mb (u := -x) (by omega) (by omega)
    rw [Int.neg_mul] at this
    omega
/-- A product's two words. -/
def wHi (n d : Int) : Int := n * d / 18446744073709551616
def wLo (n d : Int) : Int := n * d % 18446744073709551616
theorem wide_lt (P Q : Int) : (P / 18446744073709551616 < Q / 18446744073709551616 ∨ P / 18446744073709551616 = Q / 18446744073709551616 ∧ P % 18446744073709551616 < Q % 18446744073709551616) ↔ P < Q := by omega
/-- The greatest whole number that isn't greater. -/
theorem floor_neg {a b : Int} (ha : a < 0) (hb : 0 < b) : -((-a + b - 1) / b) = a / b := by
  have h1 := Int.mul_ediv_add_emod a b
  have h2 := Int.emod_nonneg a (by omega : b ≠ 0)
  have h3 := Int.emod_lt_of_pos a hb
  have e : (-a + b - 1) / b = -(a / b) := by
    rw [Int.ediv_eq_iff_of_pos hb]
    have h4 : -(a / b) * b = -(b * (a / b)) := by rw [Int.neg_mul, Int.mul_comm]
    rw [h4]
    generalize b * (a / b) = q at *
    omega
  rw [e]; omega
end Go.Proofs.Ytmmjbdffpgohdaa
