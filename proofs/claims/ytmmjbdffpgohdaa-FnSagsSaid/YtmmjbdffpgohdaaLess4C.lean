/- Fractions compared by Euclid's steps. Condition: sizes. -/
import Derived.Test.YtmmjbdffpgohdaaLessC
namespace Go.Proofs.Ytmmjbdffpgohdaa
open Go.RowKit
set_option linter.unusedVariables false
/-- Equal whole parts taken away, the order stays. -/
theorem frLt_sub {a b c d : Int} (h : a / b = c / d) : frLt a b c d ↔ frLt (a % b) b (c % d) d := by
  have h1 := Int.mul_ediv_add_emod a b
  have h2 := Int.mul_ediv_add_emod c d
  unfold frLt
  rw [← h] at h2
  generalize a / b = q at *
  generalize a % b = x at *
  generalize c % d = y at *
  subst h1 h2
  have e1 : (b * q + x) * d = b * q * d + x * d := by grind
  have e2 : (d * q + y) * b = b * q * d + y * b := by grind
  rw [e1, e2]; omega
theorem frLt_swap {a b c d : Int} : frLt a b c d ↔ frLt d c b a := by
  unfold frLt
  rw [Int.mul_comm a d, Int.mul_comm c b]
theorem frLt_floor {a b c d : Int} (hb : 0 < b) (hd : 0 < d) (h : a / b ≠ c / d) : frLt a b c d ↔ a / b < c / d := by
  have h1 := Int.mul_ediv_add_emod a b
  have h2 := Int.mul_ediv_add_emod c d
  have x0 := Int.emod_nonneg a (by omega : b ≠ 0)
  have x1 := Int.emod_lt_of_pos a hb
  have y0 := Int.emod_nonneg c (by omega : d ≠ 0)
  have y1 := Int.emod_lt_of_pos c hd
  unfold frLt
  generalize a / b = q at *
  generalize c / d = r at *
  generalize a % b = x at *
  generalize c % d = y at *
  subst h1 h2
  have e1 : (b * q + x) * d = b * d * q + x * d := by grind
  have e2 : (d * r + y) * b = b * d * r + y * b := by grind
  have m1 : 0 ≤ x * d := Int.mul_nonneg x0 (by omega)
  have m2 : x * d < b * d := Int.mul_lt_mul_of_pos_right x1 hd
  have m3 : 0 ≤ y * b := Int.mul_nonneg y0 (by omega)
  have m4 : y * b < b * d := by rw [Int.mul_comm b d]; exact Int.mul_lt_mul_of_pos_right y1 hb
  have hbd := Int.mul_pos hb hd
  rw [e1, e2]
  generalize b * d = M at *
  rcases Int.lt_or_gt_of_ne h with hlt | hgt
  · have : M * (q + 1) ≤ M * r := Int.mul_le_mul_of_nonneg_left (by omega) (by omega)
    rw [Int.mul_add, Int.mul_one] at this
    constructor
    · intro _; exact hlt
    · intro _; omega
  · have : M * (r + 1) ≤ M * q := Int.mul_le_mul_of_nonneg_left (by omega) (by omega)
    rw [Int.mul_add, Int.mul_one] at this
    constructor
    · intro _; omega
    · intro _; omega
end Go.Proofs.Ytmmjbdffpgohdaa
