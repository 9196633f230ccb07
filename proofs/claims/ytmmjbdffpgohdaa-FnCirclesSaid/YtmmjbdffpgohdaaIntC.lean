/- Slices of integers: the exact laws' comparisons in one form. Condition: sizes. -/
import Derived.Test.YtmmjbdffpgohdaaIntS
namespace Go.Proofs.Ytmmjbdffpgohdaa
open Go.RowKit
set_option linter.unusedVariables false
end Go.Proofs.Ytmmjbdffpgohdaa
