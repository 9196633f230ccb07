/- Plain facts on the checksum of a list of bytes. No condition. -/
import Derived.WalkKit
import Derived.Lib.Hide
namespace Go.Proofs.Ytinlcbljpclccaa
open Go.RowKit
/-- The checksum of a list of bytes. -/
def ck (l : List UInt8) : Int := l.foldl (fun h c => (41 * h + (c.toNat : Int) + 1) % 999979) 7
theorem ck_snoc (l : List UInt8) (c : UInt8) : ck (l ++ [c]) = (41 * ck l + (c.toNat : Int) + 1) % 999979 := by
  simp [ck, List.foldl_append]
theorem ck_bd_from (l : List UInt8) : ∀ h : Int, 0 ≤ h → h < 999979 → 0 ≤ l.foldl (fun h c => (41 * h + (c.toNat : Int) + 1) % 999979) h ∧ l.foldl (fun h c => (41 * h + (c.toNat : Int) + 1) % 999979) h < 999979 := by
  induction l with
  | nil => intro h h0 h1; exact ⟨h0, h1⟩
  | cons c r ih => intro h h0 h1; exact ih _ (by show 0 ≤ (41 * h + (c.toNat : Int) + 1) % 999979; omega) (by show (41 * h + (c.toNat : Int) + 1) % 999979 < 999979; omega)
theorem ck_bd (l : List UInt8) : 0 ≤ ck l ∧ ck l < 999979 := ck_bd_from l 7 (by omega) (by omega)
theorem take_snoc (s : ByteArray) (k : Nat) (h : k < s.size) : s.data.toList.take (k + 1) = s.data.toList.take k ++ [s[k]] := by
  rw [List.take_succ_eq_append_getElem (by simpa using h)]; rfl
theorem ck_take (s : ByteArray) (k : Nat) (h : k < s.size) : ck (s.data.toList.take (k + 1)) = (41 * ck (s.data.toList.take k) + (s[k].toNat : Int) + 1) % 999979 := by
  rw [take_snoc s k h, ck_snoc]
theorem ret_int {k : IntKind} {a b : Int} (h : a = b) : Ending.returned (.int k a) = .returned (.int k b) := by rw [h]
theorem ret_ib {k : IntKind} {a b : Int} {p q : Bool} (h : a = b) (g : p = q) : Ending.returned (.tuple #[.int k a, .bool p]) = .returned (.tuple #[.int k b, .bool q]) := by rw [h, g]
theorem str_eq {a b : ByteArray} (h : a = b) : (a.toList == b.toList) = true := by rw [h]; simp
theorem str_ne {a b : ByteArray} (h : a ≠ b) : (a.toList == b.toList) = false := by
  rw [beq_eq_false_iff_ne, ByteArray.toList_eq, ByteArray.toList_eq]
  intro e
  apply h
  cases a; cases b
  simp at e
  rw [e]
theorem ret_str {a b : ByteArray} (h : a = b) : Ending.returned (.string a) = .returned (.string b) := by rw [h]
theorem ret_sbB {a b : ByteArray} {p q : Bool} (h : a = b) (g : p = q) : Ending.returned (.tuple #[.string a, .bool p]) = .returned (.tuple #[.string b, .bool q]) := by rw [h, g]
end Go.Proofs.Ytinlcbljpclccaa
