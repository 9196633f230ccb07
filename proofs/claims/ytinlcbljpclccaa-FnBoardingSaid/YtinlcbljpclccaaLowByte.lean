/- The low byte of a shifted uint64 is a byte. No condition. -/
import Derived.IntWalk
import Derived.WalkKit
import Derived.Laws.Bits64
import Derived.Laws.Bits64b
namespace Go.Proofs.Ytinlcbljpclccaa
open Go.RowKit
theorem low_byte (n : Int) : ∃ r : Nat, r ≤ 255 ∧ wrap64 (bits BinOp.and IntKind.u64 (IntKind.u64.wrap n / 1099511627776) 255) = (r : Int) := by
  have h0 : 0 ≤ IntKind.u64.wrap n / 1099511627776 ∧ IntKind.u64.wrap n / 1099511627776 < 16777216 := by rw [IntKind.wrap_u64]; omega
  obtain ⟨m, hm⟩ : ∃ m : Nat, IntKind.u64.wrap n / 1099511627776 = (m : Int) := ⟨_, (Int.toNat_of_nonneg h0.1).symm⟩
  rw [hm] at h0 ⊢
  have h := bits_and_u64_nat m 255 (by omega) (by omega)
  have hle : m &&& 255 ≤ 255 := Nat.and_le_right
  refine ⟨m &&& 255, hle, ?_⟩
  have e : bits BinOp.and IntKind.u64 (m : Int) 255 = ((m &&& 255 : Nat) : Int) := h
  rw [e]
  exact IntWalk.wrap64_in _ (by omega)
end Go.Proofs.Ytinlcbljpclccaa
