/- A slice of integers copied into a row of one's own. Condition: sizes. -/
import Derived.Test.YtmmjbdffpgohdaaIntS
import Derived.Test.YtmmjbdffpgohdaaGS
namespace Go.Proofs.Ytmmjbdffpgohdaa
open Go.RowKit
set_option linter.unusedVariables false
theorem Try.infoIntT : (Try.prog.info? 3).map (fun i => (i.zero, i.size, i.bytes)) = some (some (.int .i64 0), 1, 8) := by kernel_rfl
theorem ints_set (l : List Int) (j : Nat) (xs : List Value) (hj : j < l.length) (hl : xs.length = l.length) :
    (intVs (l.take j) ++ xs.drop j).set j (.int .i64 (l.getD j 0)) = intVs (l.take (j + 1)) ++ xs.drop (j + 1) := by
  have h1 : (intVs (l.take j)).length = j := by simp [intVs]; omega
  rw [List.set_append_right _ _ (by omega), h1, Nat.sub_self, List.drop_eq_getElem_cons (by omega : j < xs.length), List.set_cons_zero]
  have e : l.take (j + 1) = l.take j ++ [l.getD j 0] := by rw [List.take_succ_eq_append_getElem hj]; simp [List.getD, hj]
  rw [e]
  simp [intVs]
end Go.Proofs.Ytmmjbdffpgohdaa
