/- Slices of integers: the exact laws' comparisons in one form. Condition: sizes. -/
import Derived.Test.YtiogjocbiagipabDoorIntS
namespace Go.Proofs.YtiogjocbiagipabDoor
open Go.RowKit
set_option linter.unusedVariables false
end Go.Proofs.YtiogjocbiagipabDoor
