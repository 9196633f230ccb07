/- Plain facts on decimals. No condition. -/
import Derived.WalkKit
import Derived.Lib.ItoaNum
namespace Go.Proofs.YtinlcbljpclccaaDoor
open Go.RowKit
set_option linter.unusedVariables false
/-- The decimal of n. -/
def num (n : Int) : ByteArray := ⟨(Lib.itoa n).toArray⟩
theorem num_neg (n : Int) (h : n < 0) : num n = (⟨#[45]⟩ : ByteArray) ++ num (-n) := by
  unfold num Lib.itoa
  rw [if_pos h, if_neg (by omega)]
  have e : (-n).toNat = n.natAbs := by omega
  rw [e]
  apply ByteArray.ext
  simp
theorem num_small (n : Int) (h0 : 0 ≤ n) (h : n < 10) : num n = ⟨#[UInt8.ofNat (48 + n.toNat)]⟩ := by
  unfold num Lib.itoa
  rw [if_neg (by omega), Lib.decDigits_one (by omega)]
theorem num_big (n : Int) (h0 : 0 ≤ n) (h : 10 ≤ n) : num n = num (n / 10) ++ ⟨#[UInt8.ofNat (48 + (n % 10).toNat)]⟩ := by
  unfold num Lib.itoa
  rw [if_neg (by omega), if_neg (by omega), Lib.decDigits, dif_neg (by omega)]
  have e1 : (n / 10).toNat = n.toNat / 10 := by omega
  have e2 : (n % 10).toNat = n.toNat % 10 := by omega
  rw [e1, e2]
  apply ByteArray.ext
  simp
theorem num_len : ∀ (k : Nat) (n : Int), 0 ≤ n → n < 10 ^ (k + 1) → (num n).size ≤ k + 1 ∧ 1 ≤ (num n).size := by
  intro k
  induction k with
  | zero =>
    intro n h0 h
    rw [num_small n h0 (by simpa using h)]
    exact ⟨Nat.le_refl 1, Nat.le_refl 1⟩
  | succ k ih =>
    intro n h0 h
    by_cases hs : n < 10
    · rw [num_small n h0 hs]
      exact ⟨by show 1 ≤ _; omega, Nat.le_refl 1⟩
    · have h2 : (10 : Int) ^ (k + 1 + 1) = 10 ^ (k + 1) * 10 := by rw [Int.pow_succ]
      have := ih (n / 10) (by omega) (by omega)
      rw [num_big n h0 (by omega), ByteArray.size_append]
      have e : (⟨#[UInt8.ofNat (48 + (n % 10).toNat)]⟩ : ByteArray).size = 1 := rfl
      omega
end Go.Proofs.YtinlcbljpclccaaDoor
