/- Plain facts on splitting a string at a byte. No condition. -/
import Derived.Test.YtmmjbdffpgohdaaDoorL1Math
namespace Go.Proofs.YtmmjbdffpgohdaaDoor
open Go.RowKit
set_option linter.unusedVariables false
/-- Where the last part begins after k bytes. -/
def spF (c : UInt8) (s : ByteArray) : Nat → Nat
  | 0 => 0
  | k + 1 => if s.data.toList[k]? = some c then k + 1 else spF c s k
/-- The parts that are whole after k bytes. -/
def spP (c : UInt8) (s : ByteArray) : Nat → List ByteArray
  | 0 => []
  | k + 1 => if s.data.toList[k]? = some c then spP c s k ++ [s.extract (spF c s k) k] else spP c s k
def splitAll (c : UInt8) (s : ByteArray) : List ByteArray := spP c s s.size ++ [s.extract (spF c s s.size) s.size]
theorem spF_le (c : UInt8) (s : ByteArray) (k : Nat) : spF c s k ≤ k := by
  induction k with
  | zero => exact Nat.le_refl _
  | succ k ih => unfold spF; split <;> omega
theorem spP_len (c : UInt8) (s : ByteArray) (k : Nat) : (spP c s k).length ≤ k := by
  induction k with
  | zero => exact Nat.le_refl _
  | succ k ih =>
    unfold spP; split
    · simp; omega
    · omega
theorem at_some (s : ByteArray) (k : Nat) (h : k < s.size) : s.data.toList[k]? = some s[k] := by
  rw [List.getElem?_eq_getElem (by simpa using h)]; rfl
theorem sp_hit {c : UInt8} {s : ByteArray} {k : Nat} (h : k < s.size) (e : s[k] = c) : spF c s (k + 1) = k + 1 ∧ spP c s (k + 1) = spP c s k ++ [s.extract (spF c s k) k] := by
  have : s.data.toList[k]? = some c := by rw [at_some s k h, e]
  exact ⟨by rw [spF, if_pos this], by rw [spP, if_pos this]⟩
theorem sp_miss {c : UInt8} {s : ByteArray} {k : Nat} (h : k < s.size) (e : s[k] ≠ c) : spF c s (k + 1) = spF c s k ∧ spP c s (k + 1) = spP c s k := by
  have : ¬ s.data.toList[k]? = some c := by rw [at_some s k h]; simpa using e
  exact ⟨by rw [spF, if_neg this], by rw [spP, if_neg this]⟩
theorem splitAll_len (c : UInt8) (s : ByteArray) : 1 ≤ (splitAll c s).length ∧ (splitAll c s).length ≤ s.size + 1 := by
  have := spP_len c s s.size
  simp [splitAll]; omega
end Go.Proofs.YtmmjbdffpgohdaaDoor
