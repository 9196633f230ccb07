/- The walk of l1Stands: whether a byte stands in a string. Condition: the string has at most maxLen bytes. -/
import Derived.Test.YtmmjbdffpgohdaaDoorRows
import Derived.Test.YtmmjbdffpgohdaaDoorSplitMath
import Derived.LoopTactic
import Derived.OwnWalk
import Derived.Below
import Derived.WalkKit
import Derived.Lib.Hide
namespace Go.Proofs.YtmmjbdffpgohdaaDoor
open Go.RowKit
set_option linter.unusedVariables false
end Go.Proofs.YtmmjbdffpgohdaaDoor
