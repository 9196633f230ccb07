/- Slices of impl.Brake marked and looked at. Condition: sizes. -/
import Derived.Test.YthmoogkllpcebaaBrkS
namespace Go.Proofs.Ythmoogkllpcebaa
open Go.RowKit
set_option linter.unusedVariables false
/-- The marks from k on. -/
def mkBrk (k j : Nat) : Brk := ⟨(k : Int) + (j : Int) * 2, (k : Int) + (j : Int) * 2 + 1⟩
def mksBrk (k n : Nat) : List Brk := (List.range n).map (mkBrk k)
theorem mksBrk_len (k n : Nat) : (mksBrk k n).length = n := by simp [mksBrk]
theorem mksBrk_succ (k j : Nat) : mksBrk k (j + 1) = mksBrk k j ++ [mkBrk k j] := by simp [mksBrk, List.range_succ]
theorem mksBrk_at (k n j : Nat) (h : j < n) : gth (mksBrk k n) j = mkBrk k j := by simp [gth, mksBrk, List.getD, h]
end Go.Proofs.Ythmoogkllpcebaa
