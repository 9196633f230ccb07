/- Slices of integers: the exact laws' comparisons in one form. Condition: sizes. -/
import Derived.Test.YthmoogkllpcebaaIntS
namespace Go.Proofs.Ythmoogkllpcebaa
open Go.RowKit
set_option linter.unusedVariables false
end Go.Proofs.Ythmoogkllpcebaa
