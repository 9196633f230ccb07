/- Slices of impl.WindState marked and looked at. Condition: sizes. -/
import Derived.Test.YtoamhbobcpljpaaWstS
namespace Go.Proofs.Ytoamhbobcpljpaa
open Go.RowKit
set_option linter.unusedVariables false
/-- The marks from k on. -/
def mkWst (k j : Nat) : Wst := ⟨(k : Int) + (j : Int) * 2, (k : Int) + (j : Int) * 2 + 1⟩
def mksWst (k n : Nat) : List Wst := (List.range n).map (mkWst k)
theorem mksWst_len (k n : Nat) : (mksWst k n).length = n := by simp [mksWst]
theorem mksWst_succ (k j : Nat) : mksWst k (j + 1) = mksWst k j ++ [mkWst k j] := by simp [mksWst, List.range_succ]
theorem mksWst_at (k n j : Nat) (h : j < n) : gth (mksWst k n) j = mkWst k j := by simp [gth, mksWst, List.getD, h]
end Go.Proofs.Ytoamhbobcpljpaa
