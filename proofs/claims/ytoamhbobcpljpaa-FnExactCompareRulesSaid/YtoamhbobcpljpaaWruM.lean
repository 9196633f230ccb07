/- Slices of impl.WindRule marked and looked at. Condition: sizes. -/
import Derived.Test.YtoamhbobcpljpaaWruS
namespace Go.Proofs.Ytoamhbobcpljpaa
open Go.RowKit
set_option linter.unusedVariables false
/-- The marks from k on. -/
def mkWru (k j : Nat) : Wru := ⟨(k : Int) + (j : Int) * 4, (k : Int) + (j : Int) * 4 + 1, (k : Int) + (j : Int) * 4 + 1 + 1, (k : Int) + (j : Int) * 4 + 1 + 1 + 1⟩
def mksWru (k n : Nat) : List Wru := (List.range n).map (mkWru k)
theorem mksWru_len (k n : Nat) : (mksWru k n).length = n := by simp [mksWru]
theorem mksWru_succ (k j : Nat) : mksWru k (j + 1) = mksWru k j ++ [mkWru k j] := by simp [mksWru, List.range_succ]
theorem mksWru_at (k n j : Nat) (h : j < n) : gth (mksWru k n) j = mkWru k j := by simp [gth, mksWru, List.getD, h]
end Go.Proofs.Ytoamhbobcpljpaa
