/- Queues with groups: answers that leave the world, in the laws' form. Condition: sizes. -/
import Derived.Test.YtkjdkfoeolcnkaaQuC
namespace Go.Proofs.Ytkjdkfoeolcnkaa
open Go.RowKit
set_option linter.unusedVariables false
theorem specIsQueue_b (v : Value) (l : List Gro) (w : World) (hr : Rs w v l.length (gros l)) (hn : l.length ≤ 1048576) :
    Calls Try.prog 35 #[v] w fun e w' => e = .returned (.bool (isQ l)) ∧ Below w.heap.size w w' :=
  (specIsQueue_c v l w hr hn).mono fun _ _ ⟨h, hw⟩ => ⟨h, hw ▸ Below.refl _ _⟩
theorem specPeopleIn_b (v : Value) (l : List Gro) (w : World) (hr : Rs w v l.length (gros l)) (hn : l.length ≤ 1048576) :
    Calls Try.prog 42 #[v] w fun e w' => e = .returned (.tuple #[.int .i64 (ppV l), .int .i64 (qqV l), .bool (isQ l)]) ∧ Below w.heap.size w w' :=
  (specPeopleIn_c v l w hr hn).mono fun _ _ ⟨h, hw⟩ => ⟨h, hw ▸ Below.refl _ _⟩
end Go.Proofs.Ytkjdkfoeolcnkaa
