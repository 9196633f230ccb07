/- The exact laws' comparisons in one form: what was there is as it was. Condition: sizes. -/
import Derived.Test.YtpnpkgdhiidfmaaDoorSupMark
import Derived.Test.YtpnpkgdhiidfmaaDoorIntS
namespace Go.Proofs.YtpnpkgdhiidfmaaDoor
open Go.RowKit
set_option linter.unusedVariables false
theorem eqSupportS_c (va vb : Value) (l : List Sup) (w : World) (ha : Rs w va l.length (sups l)) (hb : Rs w vb l.length (sups l)) :
    Calls Tryd.prog 9 #[va, vb] w fun e w' => e = .returned (.bool true) ∧ Below w.heap.size w w' := eqSupportS_same va vb l w ha hb
theorem heldSupportS_c (k n : Nat) (v : Value) (w : World) (hk : k ≤ 8388608) (hn : n ≤ 8388608) (hr : Rs w v n (sups (mks3 k n))) :
    Calls Tryd.prog 13 #[v, .int .i64 (k : Int)] w fun e w' => e = .returned (.int .i64 ((k + n * 3 : Nat) : Int)) ∧ Below w.heap.size w w' := (heldSupportS_any k n v w hk hn hr).mono fun _ _ h => ⟨h.1, h.2.below _⟩
end Go.Proofs.YtpnpkgdhiidfmaaDoor
