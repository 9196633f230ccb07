/- IsLine: the program's and the specification's answer as one function of the line. Condition: sizes. -/
import Derived.Test.YtmmjbdffpgohdaaDoorIsLineW
namespace Go.Proofs.YtmmjbdffpgohdaaDoor
open Go.RowKit
set_option linter.unusedVariables false
noncomputable def isL (l : List Sup) : Bool := @decide (IsL l) (Classical.propDecidable _)
theorem isL_iff (l : List Sup) : isL l = true ↔ IsL l := by unfold isL; simp
theorem isL_no {l : List Sup} (h : isL l = false) : ¬ IsL l := fun g => by rw [(isL_iff l).2 g] at h; cases h
theorem l2Line_c (v : Value) (l : List Sup) (w : World) (hr : Rs w v l.length (sups l)) (hn : l.length ≤ 1048576) :
    Calls Tryd.prog 20 #[v] w fun e w' => e = .returned (.bool (isL l)) ∧ Drew w w' := l2Line_b v l _ w hr hn (isL_iff l)
theorem implIsLine_c (v : Value) (l : List Sup) (w : World) (hr : Rs w v l.length (sups l)) (hn : l.length ≤ 1048576) :
    Calls Tryd.prog 9 #[v] w fun e w' => e = .returned (.bool (isL l)) ∧ Below w.heap.size w w' := IsLine_b v l _ w hr hn (isL_iff l)
end Go.Proofs.YtmmjbdffpgohdaaDoor
