/- Slices of supports marked and looked at. Condition: sizes. -/
import Derived.Test.YtmmjbdffpgohdaaDoorSupS
import Derived.Test.YtmmjbdffpgohdaaDoorDrew
import Derived.Maps.AppendAt
namespace Go.Proofs.YtmmjbdffpgohdaaDoor
open Go.RowKit
set_option linter.unusedVariables false
/-- The marks from k on. -/
def mk3 (k j : Nat) : Sup := ⟨(k : Int) + (j : Int) * 3, (k : Int) + (j : Int) * 3 + 1, ((k : Int) + (j : Int) * 3 + 1 + 1) % 3 == 0⟩
def mks3 (k n : Nat) : List Sup := (List.range n).map (mk3 k)
theorem mks3_len (k n : Nat) : (mks3 k n).length = n := by simp [mks3]
theorem mks3_succ (k j : Nat) : mks3 k (j + 1) = mks3 k j ++ [mk3 k j] := by simp [mks3, List.range_succ]
theorem mks3_nth (k n j : Nat) (h : j < n) : nth (mks3 k n) j = mk3 k j := by simp [nth, mks3, List.getD, h]
end Go.Proofs.YtmmjbdffpgohdaaDoor
