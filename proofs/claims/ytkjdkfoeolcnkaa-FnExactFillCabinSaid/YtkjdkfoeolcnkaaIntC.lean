/- Slices of integers: the exact laws' comparisons in one form. Condition: sizes. -/
import Derived.Test.YtkjdkfoeolcnkaaIntS
namespace Go.Proofs.Ytkjdkfoeolcnkaa
open Go.RowKit
set_option linter.unusedVariables false
theorem eqIntS_c (va vb : Value) (l : List Int) (w : World) (ha : Rd w va (intVs l)) (hb : Rd w vb (intVs l)) :
    Calls Try.prog 48 #[va, vb] w fun e w' => e = .returned (.bool true) ∧ Below w.heap.size w w' := (eqIntS_same va vb l w ha hb).mono fun _ _ h => ⟨h.1, h.2.below _⟩
theorem heldIntS_c (k n : Nat) (v : Value) (w : World) (hk : k ≤ 8388608) (hn : n ≤ 8388608) (hr : Rd w v (intVs (imarks k n))) :
    Calls Try.prog 50 #[v, .int .i64 (k : Int)] w fun e w' => e = .returned (.int .i64 ((k + n : Nat) : Int)) ∧ Below w.heap.size w w' := (heldIntS_any k n v w hk hn hr).mono fun _ _ h => ⟨h.1, h.2.below _⟩
end Go.Proofs.Ytkjdkfoeolcnkaa
