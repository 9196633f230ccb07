/- The walks of LessString. No condition. -/
import Derived.Test.YthnbbaefeojanaaRows
import Derived.WalkKit
import Derived.WalkLawsBesides
import Derived.Below
import Derived.Outline
namespace Go.Proofs.Ythnbbaefeojanaa
open Go.RowKit
set_option linter.unusedVariables false
/-- Less, byte by byte. -/
def lessB (s t : ByteArray) : Bool := Op.bytesLess s.toList t.toList
theorem LessString_any (s t : ByteArray) (w : World) :
    Calls Try.prog 15 #[.string s, .string t] w fun e w' => e = .returned (.bool (lessB s t)) ∧ w = w' := by
  go_enter Try.func15, Try.ntmps15
  go_wp2
  go_ret
  exact ⟨rfl, rfl⟩
theorem specLessString_any (s t : ByteArray) (w : World) :
    Calls Try.prog 16 #[.string s, .string t] w fun e w' => e = .returned (.bool (lessB s t)) ∧ w = w' := by
  go_enter Try.func16, Try.ntmps16
  go_wp2
  go_ret
  exact ⟨rfl, rfl⟩
theorem less_asym : ∀ (a b : List UInt8), Op.bytesLess a b = true → Op.bytesLess b a = false := by
  intro a
  induction a with
  | nil => intro b h; cases b <;> simp [Op.bytesLess] at h ⊢
  | cons x a ih =>
    intro b h
    cases b with
    | nil => simp [Op.bytesLess] at h
    | cons y b =>
      simp only [Op.bytesLess] at h ⊢
      rcases Nat.lt_trichotomy x.toNat y.toNat with hlt | heq | hgt
      · have h1 : ¬ y < x := by rw [UInt8.lt_iff_toNat_lt]; omega
        have h2 : (y == x) = false := by rw [beq_eq_false_iff_ne]; rintro rfl; omega
        simp [h1, h2]
      · obtain rfl : x = y := UInt8.toNat_inj.1 heq
        have h1 : ¬ x < x := by rw [UInt8.lt_iff_toNat_lt]; omega
        simp [h1] at h ⊢
        exact ih b h
      · have h1 : ¬ x < y := by rw [UInt8.lt_iff_toNat_lt]; omega
        have h2 : (x == y) = false := by rw [beq_eq_false_iff_ne]; rintro rfl; omega
        simp [h1, h2] at h
theorem lessB_asym {s t : ByteArray} (h : lessB s t = true) : lessB t s = false := less_asym _ _ h
end Go.Proofs.Ythnbbaefeojanaa
