/- Slices of integers: the exact laws' comparisons in one form. Condition: sizes. -/
import Derived.Test.YtklfipmjdhkkiaaIntS
namespace Go.Proofs.Ytklfipmjdhkkiaa
open Go.RowKit
set_option linter.unusedVariables false
theorem eqIntS_c (va vb : Value) (l : List Int) (w : World) (ha : Rd w va (intVs l)) (hb : Rd w vb (intVs l)) :
    Calls Try.prog 36 #[va, vb] w fun e w' => e = .returned (.bool true) ∧ Below w.heap.size w w' := (eqIntS_same va vb l w ha hb).mono fun _ _ h => ⟨h.1, h.2.below _⟩
end Go.Proofs.Ytklfipmjdhkkiaa
