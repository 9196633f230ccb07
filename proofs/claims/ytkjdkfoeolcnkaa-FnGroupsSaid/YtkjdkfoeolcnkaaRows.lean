/-
  No cell of these rows narrows 'for every input' (looked for: loops, veiled, ifaces, maps, wideKeys, modest, calm, conditions, laid).
  DERIVED. THE GIVEN ROWS OF THIS SEAT. 11 by the template 'for every input the law returns true; each argument reads behind the call as it read before'; 0 by the template 'total and deterministic' (their statements: YtkjdkfoeolcnkaaTotals.lean).
  GIVEN WITH THE SEED: the statements are not yours to turn. If you find one false, say at which input.
  Laid BY PROGRAM, IN A SANDBOX (cutbox-rows.mjs): the forced cells as the released guide's own fill.sh prints them over the translation e4f67e04821fadf6… (all of the seat's roots in one cut). By AI agents, Wed Nov 11 2026. No macro, syntax, notation, axiom, sorry.
-/
import Derived.Test.YtkjdkfoeolcnkaaChecked
import GoSem.Claim
import GoSem.ClaimJoined
import GoSem.ClaimMapViews
import Derived.JoinedTies
import Derived.KernelRfl
namespace Go.Proofs.Ytkjdkfoeolcnkaa
/- THE CELL 'sum', in the pinned program and in every row, IS THE sha256 OF THE DUMP (.gsa) THAT YtkjdkfoeolcnkaaProg.lean LOADS. Nothing in Lean hashes anything: it is a label: what it is worth is what the hold of that sum in a sandbox is worth. -/
noncomputable def Try.pinned : Pinned := { name := "ytkjdkfoeolcnkaa", sum := "e4f67e04821fadf6ca04cd78848df81bb59940647bc5f971eb98b51ded4bc3e3", checked := Try.checked }
namespace Rows
def none {H : Type} : Left H := { results := [], args := [] }

/-- 'laws.FnQueues': WHATEVER THE INPUT: true; the input reads as it did. -/
def fnQueuesSpec : ChangeSpec := { name := "fnQueues", fn := fun _ => fun
  | [d] => { results := [.lit (.bool true)], args := [d] }
  | _ => none }
def fnQueuesRow : OpenClaim := { program := "ytkjdkfoeolcnkaa", sum := "e4f67e04821fadf6ca04cd78848df81bb59940647bc5f971eb98b51ded4bc3e3", func := "loop.example/g00935/laws.FnQueues", spec := "fnQueues", unfollowed := true, recurses := true, apart := false }
def FnQueuesSaid : Prop := fnQueuesRow.holds Try.pinned (OpenSpec.ofChange fnQueuesSpec)

/-- ITS FALSE NEIGHBOUR: 'it returns false'. Refute it at one input. -/
def fnQueuesWrong : ChangeSpec := { name := "fnQueues", fn := fun _ => fun
  | [d] => { results := [.lit (.bool false)], args := [d] }
  | _ => none }
def FnQueuesWrongFalsely : Prop := fnQueuesRow.holds Try.pinned (OpenSpec.ofChange fnQueuesWrong)

/-- 'laws.FnGroups': WHATEVER THE INPUT: true; the input reads as it did. -/
def fnGroupsSpec : ChangeSpec := { name := "fnGroups", fn := fun _ => fun
  | [d] => { results := [.lit (.bool true)], args := [d] }
  | _ => none }
def fnGroupsRow : OpenClaim := { program := "ytkjdkfoeolcnkaa", sum := "e4f67e04821fadf6ca04cd78848df81bb59940647bc5f971eb98b51ded4bc3e3", func := "loop.example/g00935/laws.FnGroups", spec := "fnGroups", unfollowed := true, recurses := true, apart := false }
def FnGroupsSaid : Prop := fnGroupsRow.holds Try.pinned (OpenSpec.ofChange fnGroupsSpec)

/-- ITS FALSE NEIGHBOUR: 'it returns false'. Refute it at one input. -/
def fnGroupsWrong : ChangeSpec := { name := "fnGroups", fn := fun _ => fun
  | [d] => { results := [.lit (.bool false)], args := [d] }
  | _ => none }
def FnGroupsWrongFalsely : Prop := fnGroupsRow.holds Try.pinned (OpenSpec.ofChange fnGroupsWrong)

/-- 'laws.FnExactIsQueue': WHATEVER THE INPUT: true; the input reads as it did. -/
def fnExactIsQueueSpec : ChangeSpec := { name := "fnExactIsQueue", fn := fun _ => fun
  | [d] => { results := [.lit (.bool true)], args := [d] }
  | _ => none }
def fnExactIsQueueRow : OpenClaim := { program := "ytkjdkfoeolcnkaa", sum := "e4f67e04821fadf6ca04cd78848df81bb59940647bc5f971eb98b51ded4bc3e3", func := "loop.example/g00935/laws.FnExactIsQueue", spec := "fnExactIsQueue", unfollowed := true, recurses := true, apart := false }
def FnExactIsQueueSaid : Prop := fnExactIsQueueRow.holds Try.pinned (OpenSpec.ofChange fnExactIsQueueSpec)

/-- ITS FALSE NEIGHBOUR: 'it returns false'. Refute it at one input. -/
def fnExactIsQueueWrong : ChangeSpec := { name := "fnExactIsQueue", fn := fun _ => fun
  | [d] => { results := [.lit (.bool false)], args := [d] }
  | _ => none }
def FnExactIsQueueWrongFalsely : Prop := fnExactIsQueueRow.holds Try.pinned (OpenSpec.ofChange fnExactIsQueueWrong)

/-- 'laws.FnExactSplitGroups': WHATEVER THE INPUT: true; the input reads as it did. -/
def fnExactSplitGroupsSpec : ChangeSpec := { name := "fnExactSplitGroups", fn := fun _ => fun
  | [d1, d2] => { results := [.lit (.bool true)], args := [d1, d2] }
  | _ => none }
def fnExactSplitGroupsRow : OpenClaim := { program := "ytkjdkfoeolcnkaa", sum := "e4f67e04821fadf6ca04cd78848df81bb59940647bc5f971eb98b51ded4bc3e3", func := "loop.example/g00935/laws.FnExactSplitGroups", spec := "fnExactSplitGroups", unfollowed := true, recurses := true, apart := false }
def FnExactSplitGroupsSaid : Prop := fnExactSplitGroupsRow.holds Try.pinned (OpenSpec.ofChange fnExactSplitGroupsSpec)

/-- ITS FALSE NEIGHBOUR: 'it returns false'. Refute it at one input. -/
def fnExactSplitGroupsWrong : ChangeSpec := { name := "fnExactSplitGroups", fn := fun _ => fun
  | [d1, d2] => { results := [.lit (.bool false)], args := [d1, d2] }
  | _ => none }
def FnExactSplitGroupsWrongFalsely : Prop := fnExactSplitGroupsRow.holds Try.pinned (OpenSpec.ofChange fnExactSplitGroupsWrong)

/-- 'laws.FnExactFillCabin': WHATEVER THE INPUT: true; the input reads as it did. -/
def fnExactFillCabinSpec : ChangeSpec := { name := "fnExactFillCabin", fn := fun _ => fun
  | [d1, d2] => { results := [.lit (.bool true)], args := [d1, d2] }
  | _ => none }
def fnExactFillCabinRow : OpenClaim := { program := "ytkjdkfoeolcnkaa", sum := "e4f67e04821fadf6ca04cd78848df81bb59940647bc5f971eb98b51ded4bc3e3", func := "loop.example/g00935/laws.FnExactFillCabin", spec := "fnExactFillCabin", unfollowed := true, recurses := true, apart := false }
def FnExactFillCabinSaid : Prop := fnExactFillCabinRow.holds Try.pinned (OpenSpec.ofChange fnExactFillCabinSpec)

/-- ITS FALSE NEIGHBOUR: 'it returns false'. Refute it at one input. -/
def fnExactFillCabinWrong : ChangeSpec := { name := "fnExactFillCabin", fn := fun _ => fun
  | [d1, d2] => { results := [.lit (.bool false)], args := [d1, d2] }
  | _ => none }
def FnExactFillCabinWrongFalsely : Prop := fnExactFillCabinRow.holds Try.pinned (OpenSpec.ofChange fnExactFillCabinWrong)

/-- 'laws.FnExactAfterCabin': WHATEVER THE INPUT: true; the input reads as it did. -/
def fnExactAfterCabinSpec : ChangeSpec := { name := "fnExactAfterCabin", fn := fun _ => fun
  | [d1, d2] => { results := [.lit (.bool true)], args := [d1, d2] }
  | _ => none }
def fnExactAfterCabinRow : OpenClaim := { program := "ytkjdkfoeolcnkaa", sum := "e4f67e04821fadf6ca04cd78848df81bb59940647bc5f971eb98b51ded4bc3e3", func := "loop.example/g00935/laws.FnExactAfterCabin", spec := "fnExactAfterCabin", unfollowed := true, recurses := true, apart := false }
def FnExactAfterCabinSaid : Prop := fnExactAfterCabinRow.holds Try.pinned (OpenSpec.ofChange fnExactAfterCabinSpec)

/-- ITS FALSE NEIGHBOUR: 'it returns false'. Refute it at one input. -/
def fnExactAfterCabinWrong : ChangeSpec := { name := "fnExactAfterCabin", fn := fun _ => fun
  | [d1, d2] => { results := [.lit (.bool false)], args := [d1, d2] }
  | _ => none }
def FnExactAfterCabinWrongFalsely : Prop := fnExactAfterCabinRow.holds Try.pinned (OpenSpec.ofChange fnExactAfterCabinWrong)

/-- 'laws.FnExactCabinsNeeded': WHATEVER THE INPUT: true; the input reads as it did. -/
def fnExactCabinsNeededSpec : ChangeSpec := { name := "fnExactCabinsNeeded", fn := fun _ => fun
  | [d1, d2] => { results := [.lit (.bool true)], args := [d1, d2] }
  | _ => none }
def fnExactCabinsNeededRow : OpenClaim := { program := "ytkjdkfoeolcnkaa", sum := "e4f67e04821fadf6ca04cd78848df81bb59940647bc5f971eb98b51ded4bc3e3", func := "loop.example/g00935/laws.FnExactCabinsNeeded", spec := "fnExactCabinsNeeded", unfollowed := true, recurses := true, apart := false }
def FnExactCabinsNeededSaid : Prop := fnExactCabinsNeededRow.holds Try.pinned (OpenSpec.ofChange fnExactCabinsNeededSpec)

/-- ITS FALSE NEIGHBOUR: 'it returns false'. Refute it at one input. -/
def fnExactCabinsNeededWrong : ChangeSpec := { name := "fnExactCabinsNeeded", fn := fun _ => fun
  | [d1, d2] => { results := [.lit (.bool false)], args := [d1, d2] }
  | _ => none }
def FnExactCabinsNeededWrongFalsely : Prop := fnExactCabinsNeededRow.holds Try.pinned (OpenSpec.ofChange fnExactCabinsNeededWrong)

/-- 'laws.FnExactCabinOf': WHATEVER THE INPUT: true; the input reads as it did. -/
def fnExactCabinOfSpec : ChangeSpec := { name := "fnExactCabinOf", fn := fun _ => fun
  | [d1, d2, d3] => { results := [.lit (.bool true)], args := [d1, d2, d3] }
  | _ => none }
def fnExactCabinOfRow : OpenClaim := { program := "ytkjdkfoeolcnkaa", sum := "e4f67e04821fadf6ca04cd78848df81bb59940647bc5f971eb98b51ded4bc3e3", func := "loop.example/g00935/laws.FnExactCabinOf", spec := "fnExactCabinOf", unfollowed := true, recurses := true, apart := false }
def FnExactCabinOfSaid : Prop := fnExactCabinOfRow.holds Try.pinned (OpenSpec.ofChange fnExactCabinOfSpec)

/-- ITS FALSE NEIGHBOUR: 'it returns false'. Refute it at one input. -/
def fnExactCabinOfWrong : ChangeSpec := { name := "fnExactCabinOf", fn := fun _ => fun
  | [d1, d2, d3] => { results := [.lit (.bool false)], args := [d1, d2, d3] }
  | _ => none }
def FnExactCabinOfWrongFalsely : Prop := fnExactCabinOfRow.holds Try.pinned (OpenSpec.ofChange fnExactCabinOfWrong)

/-- 'laws.FnExactPeopleIn': WHATEVER THE INPUT: true; the input reads as it did. -/
def fnExactPeopleInSpec : ChangeSpec := { name := "fnExactPeopleIn", fn := fun _ => fun
  | [d] => { results := [.lit (.bool true)], args := [d] }
  | _ => none }
def fnExactPeopleInRow : OpenClaim := { program := "ytkjdkfoeolcnkaa", sum := "e4f67e04821fadf6ca04cd78848df81bb59940647bc5f971eb98b51ded4bc3e3", func := "loop.example/g00935/laws.FnExactPeopleIn", spec := "fnExactPeopleIn", unfollowed := true, recurses := true, apart := false }
def FnExactPeopleInSaid : Prop := fnExactPeopleInRow.holds Try.pinned (OpenSpec.ofChange fnExactPeopleInSpec)

/-- ITS FALSE NEIGHBOUR: 'it returns false'. Refute it at one input. -/
def fnExactPeopleInWrong : ChangeSpec := { name := "fnExactPeopleIn", fn := fun _ => fun
  | [d] => { results := [.lit (.bool false)], args := [d] }
  | _ => none }
def FnExactPeopleInWrongFalsely : Prop := fnExactPeopleInRow.holds Try.pinned (OpenSpec.ofChange fnExactPeopleInWrong)

/-- 'laws.FnExactLeastCabins': WHATEVER THE INPUT: true; the input reads as it did. -/
def fnExactLeastCabinsSpec : ChangeSpec := { name := "fnExactLeastCabins", fn := fun _ => fun
  | [d1, d2] => { results := [.lit (.bool true)], args := [d1, d2] }
  | _ => none }
def fnExactLeastCabinsRow : OpenClaim := { program := "ytkjdkfoeolcnkaa", sum := "e4f67e04821fadf6ca04cd78848df81bb59940647bc5f971eb98b51ded4bc3e3", func := "loop.example/g00935/laws.FnExactLeastCabins", spec := "fnExactLeastCabins", unfollowed := true, recurses := true, apart := false }
def FnExactLeastCabinsSaid : Prop := fnExactLeastCabinsRow.holds Try.pinned (OpenSpec.ofChange fnExactLeastCabinsSpec)

/-- ITS FALSE NEIGHBOUR: 'it returns false'. Refute it at one input. -/
def fnExactLeastCabinsWrong : ChangeSpec := { name := "fnExactLeastCabins", fn := fun _ => fun
  | [d1, d2] => { results := [.lit (.bool false)], args := [d1, d2] }
  | _ => none }
def FnExactLeastCabinsWrongFalsely : Prop := fnExactLeastCabinsRow.holds Try.pinned (OpenSpec.ofChange fnExactLeastCabinsWrong)

/-- 'laws.FnExactEmptySeats': WHATEVER THE INPUT: true; the input reads as it did. -/
def fnExactEmptySeatsSpec : ChangeSpec := { name := "fnExactEmptySeats", fn := fun _ => fun
  | [d1, d2] => { results := [.lit (.bool true)], args := [d1, d2] }
  | _ => none }
def fnExactEmptySeatsRow : OpenClaim := { program := "ytkjdkfoeolcnkaa", sum := "e4f67e04821fadf6ca04cd78848df81bb59940647bc5f971eb98b51ded4bc3e3", func := "loop.example/g00935/laws.FnExactEmptySeats", spec := "fnExactEmptySeats", unfollowed := true, recurses := true, apart := false }
def FnExactEmptySeatsSaid : Prop := fnExactEmptySeatsRow.holds Try.pinned (OpenSpec.ofChange fnExactEmptySeatsSpec)

/-- ITS FALSE NEIGHBOUR: 'it returns false'. Refute it at one input. -/
def fnExactEmptySeatsWrong : ChangeSpec := { name := "fnExactEmptySeats", fn := fun _ => fun
  | [d1, d2] => { results := [.lit (.bool false)], args := [d1, d2] }
  | _ => none }
def FnExactEmptySeatsWrongFalsely : Prop := fnExactEmptySeatsRow.holds Try.pinned (OpenSpec.ofChange fnExactEmptySeatsWrong)

/- THE SECOND FORM. 'bulk': how many values and letters a reading holds, each counted each time it is reached (what is shared counts as often as it is met; a slice's spare places count too). A statement '..UptoSaid' is the law's where the arguments, and the package variables that the reading takes, are together of bulk at most 1048576: NARROWER than '..Said'. Prove '..Said' where nothing that the law and all that it calls make is longer than what came in: it says more and counts as full. Else prove '..UptoSaid'. A law counts once. -/
mutual
def uptoBulk {H : Type} : DataW H → Nat
  | .lit (.string bytes) => bytes.length + 1
  | .lit _ => 1
  | .nil => 1
  | .ptr d => uptoBulk d + 1
  | .slice elems spare => uptoBulkAll elems + uptoBulkAll spare + 1
  | .agg parts => uptoBulkAll parts + 1
  | .iface _ d => uptoBulk d + 1
  | .map entries => uptoBulkEntries entries + 1
  | .held _ => 1
def uptoBulkAll {H : Type} : List (DataW H) → Nat
  | [] => 0
  | d :: r => uptoBulk d + uptoBulkAll r
def uptoBulkEntries {H : Type} : List (Lit × DataW H) → Nat
  | [] => 0
  | x :: r => uptoBulkEntry x + uptoBulkEntries r
def uptoBulkEntry {H : Type} : Lit × DataW H → Nat
  | (.string bytes, d) => bytes.length + uptoBulk d + 1
  | (_, d) => uptoBulk d + 1
 end
def uptoSmall : (H : Type) → List (DataW H) → Bool := fun _ ds => decide (uptoBulkAll ds ≤ 1048576)
def OpenSpec.upto (s : _root_.Go.ChangeSpec) : _root_.Go.OpenSpec := { _root_.Go.OpenSpec.ofChange s with cond := some uptoSmall }

/-- 'laws.FnQueues', WHERE WHAT IT READS IS OF BULK AT MOST 1048576: true; the input reads as it did. -/
def fnQueuesUptoRow : OpenClaim := { program := "ytkjdkfoeolcnkaa", sum := "e4f67e04821fadf6ca04cd78848df81bb59940647bc5f971eb98b51ded4bc3e3", func := "loop.example/g00935/laws.FnQueues", spec := "fnQueues", unfollowed := true, recurses := true, apart := false, narrowed := true }
def FnQueuesUptoSaid : Prop := fnQueuesUptoRow.holds Try.pinned (OpenSpec.upto fnQueuesSpec)

/-- 'laws.FnGroups', WHERE WHAT IT READS IS OF BULK AT MOST 1048576: true; the input reads as it did. -/
def fnGroupsUptoRow : OpenClaim := { program := "ytkjdkfoeolcnkaa", sum := "e4f67e04821fadf6ca04cd78848df81bb59940647bc5f971eb98b51ded4bc3e3", func := "loop.example/g00935/laws.FnGroups", spec := "fnGroups", unfollowed := true, recurses := true, apart := false, narrowed := true }
def FnGroupsUptoSaid : Prop := fnGroupsUptoRow.holds Try.pinned (OpenSpec.upto fnGroupsSpec)

/-- 'laws.FnExactIsQueue', WHERE WHAT IT READS IS OF BULK AT MOST 1048576: true; the input reads as it did. -/
def fnExactIsQueueUptoRow : OpenClaim := { program := "ytkjdkfoeolcnkaa", sum := "e4f67e04821fadf6ca04cd78848df81bb59940647bc5f971eb98b51ded4bc3e3", func := "loop.example/g00935/laws.FnExactIsQueue", spec := "fnExactIsQueue", unfollowed := true, recurses := true, apart := false, narrowed := true }
def FnExactIsQueueUptoSaid : Prop := fnExactIsQueueUptoRow.holds Try.pinned (OpenSpec.upto fnExactIsQueueSpec)

/-- 'laws.FnExactSplitGroups', WHERE WHAT IT READS IS OF BULK AT MOST 1048576: true; the input reads as it did. -/
def fnExactSplitGroupsUptoRow : OpenClaim := { program := "ytkjdkfoeolcnkaa", sum := "e4f67e04821fadf6ca04cd78848df81bb59940647bc5f971eb98b51ded4bc3e3", func := "loop.example/g00935/laws.FnExactSplitGroups", spec := "fnExactSplitGroups", unfollowed := true, recurses := true, apart := false, narrowed := true }
def FnExactSplitGroupsUptoSaid : Prop := fnExactSplitGroupsUptoRow.holds Try.pinned (OpenSpec.upto fnExactSplitGroupsSpec)

/-- 'laws.FnExactFillCabin', WHERE WHAT IT READS IS OF BULK AT MOST 1048576: true; the input reads as it did. -/
def fnExactFillCabinUptoRow : OpenClaim := { program := "ytkjdkfoeolcnkaa", sum := "e4f67e04821fadf6ca04cd78848df81bb59940647bc5f971eb98b51ded4bc3e3", func := "loop.example/g00935/laws.FnExactFillCabin", spec := "fnExactFillCabin", unfollowed := true, recurses := true, apart := false, narrowed := true }
def FnExactFillCabinUptoSaid : Prop := fnExactFillCabinUptoRow.holds Try.pinned (OpenSpec.upto fnExactFillCabinSpec)

/-- 'laws.FnExactAfterCabin', WHERE WHAT IT READS IS OF BULK AT MOST 1048576: true; the input reads as it did. -/
def fnExactAfterCabinUptoRow : OpenClaim := { program := "ytkjdkfoeolcnkaa", sum := "e4f67e04821fadf6ca04cd78848df81bb59940647bc5f971eb98b51ded4bc3e3", func := "loop.example/g00935/laws.FnExactAfterCabin", spec := "fnExactAfterCabin", unfollowed := true, recurses := true, apart := false, narrowed := true }
def FnExactAfterCabinUptoSaid : Prop := fnExactAfterCabinUptoRow.holds Try.pinned (OpenSpec.upto fnExactAfterCabinSpec)

/-- 'laws.FnExactCabinsNeeded', WHERE WHAT IT READS IS OF BULK AT MOST 1048576: true; the input reads as it did. -/
def fnExactCabinsNeededUptoRow : OpenClaim := { program := "ytkjdkfoeolcnkaa", sum := "e4f67e04821fadf6ca04cd78848df81bb59940647bc5f971eb98b51ded4bc3e3", func := "loop.example/g00935/laws.FnExactCabinsNeeded", spec := "fnExactCabinsNeeded", unfollowed := true, recurses := true, apart := false, narrowed := true }
def FnExactCabinsNeededUptoSaid : Prop := fnExactCabinsNeededUptoRow.holds Try.pinned (OpenSpec.upto fnExactCabinsNeededSpec)

/-- 'laws.FnExactCabinOf', WHERE WHAT IT READS IS OF BULK AT MOST 1048576: true; the input reads as it did. -/
def fnExactCabinOfUptoRow : OpenClaim := { program := "ytkjdkfoeolcnkaa", sum := "e4f67e04821fadf6ca04cd78848df81bb59940647bc5f971eb98b51ded4bc3e3", func := "loop.example/g00935/laws.FnExactCabinOf", spec := "fnExactCabinOf", unfollowed := true, recurses := true, apart := false, narrowed := true }
def FnExactCabinOfUptoSaid : Prop := fnExactCabinOfUptoRow.holds Try.pinned (OpenSpec.upto fnExactCabinOfSpec)

/-- 'laws.FnExactPeopleIn', WHERE WHAT IT READS IS OF BULK AT MOST 1048576: true; the input reads as it did. -/
def fnExactPeopleInUptoRow : OpenClaim := { program := "ytkjdkfoeolcnkaa", sum := "e4f67e04821fadf6ca04cd78848df81bb59940647bc5f971eb98b51ded4bc3e3", func := "loop.example/g00935/laws.FnExactPeopleIn", spec := "fnExactPeopleIn", unfollowed := true, recurses := true, apart := false, narrowed := true }
def FnExactPeopleInUptoSaid : Prop := fnExactPeopleInUptoRow.holds Try.pinned (OpenSpec.upto fnExactPeopleInSpec)

/-- 'laws.FnExactLeastCabins', WHERE WHAT IT READS IS OF BULK AT MOST 1048576: true; the input reads as it did. -/
def fnExactLeastCabinsUptoRow : OpenClaim := { program := "ytkjdkfoeolcnkaa", sum := "e4f67e04821fadf6ca04cd78848df81bb59940647bc5f971eb98b51ded4bc3e3", func := "loop.example/g00935/laws.FnExactLeastCabins", spec := "fnExactLeastCabins", unfollowed := true, recurses := true, apart := false, narrowed := true }
def FnExactLeastCabinsUptoSaid : Prop := fnExactLeastCabinsUptoRow.holds Try.pinned (OpenSpec.upto fnExactLeastCabinsSpec)

/-- 'laws.FnExactEmptySeats', WHERE WHAT IT READS IS OF BULK AT MOST 1048576: true; the input reads as it did. -/
def fnExactEmptySeatsUptoRow : OpenClaim := { program := "ytkjdkfoeolcnkaa", sum := "e4f67e04821fadf6ca04cd78848df81bb59940647bc5f971eb98b51ded4bc3e3", func := "loop.example/g00935/laws.FnExactEmptySeats", spec := "fnExactEmptySeats", unfollowed := true, recurses := true, apart := false, narrowed := true }
def FnExactEmptySeatsUptoSaid : Prop := fnExactEmptySeatsUptoRow.holds Try.pinned (OpenSpec.upto fnExactEmptySeatsSpec)

end Rows
end Go.Proofs.Ytkjdkfoeolcnkaa
