/-
  No cell of these rows narrows 'for every input' (looked for: loops, veiled, ifaces, maps, wideKeys, modest, calm, conditions, laid).
  DERIVED. THE GIVEN ROWS OF THIS SEAT. 12 by the template 'for every input the law returns true; each argument reads behind the call as it read before'; 0 by the template 'total and deterministic' (their statements: YtiogjocbiagipaaTotals.lean).
  GIVEN WITH THE SEED: the statements are not yours to turn. If you find one false, say at which input.
  Laid BY PROGRAM, IN A SANDBOX (cutbox-rows.mjs): the forced cells as the released guide's own fill.sh prints them over the translation d3279ba8ded0f998… (all of the seat's roots in one cut). By AI agents, Wed Nov 11 2026. No macro, syntax, notation, axiom, sorry.
-/
import Derived.Test.YtiogjocbiagipaaChecked
import GoSem.Claim
import GoSem.ClaimJoined
import GoSem.ClaimMapViews
import Derived.JoinedTies
import Derived.KernelRfl
namespace Go.Proofs.Ytiogjocbiagipaa
/- THE CELL 'sum', in the pinned program and in every row, IS THE sha256 OF THE DUMP (.gsa) THAT YtiogjocbiagipaaProg.lean LOADS. Nothing in Lean hashes anything: it is a label: what it is worth is what the hold of that sum in a sandbox is worth. -/
noncomputable def Try.pinned : Pinned := { name := "ytiogjocbiagipaa", sum := "d3279ba8ded0f998b9c58ee1ca509c3bf8ae94727822f1febfcad53835825326", checked := Try.checked }
namespace Rows
def none {H : Type} : Left H := { results := [], args := [] }

/-- 'laws.FnGrips': WHATEVER THE INPUT: true; the input reads as it did. -/
def fnGripsSpec : ChangeSpec := { name := "fnGrips", fn := fun _ => fun
  | [d] => { results := [.lit (.bool true)], args := [d] }
  | _ => none }
def fnGripsRow : OpenClaim := { program := "ytiogjocbiagipaa", sum := "d3279ba8ded0f998b9c58ee1ca509c3bf8ae94727822f1febfcad53835825326", func := "loop.example/g00935/laws.FnGrips", spec := "fnGrips", unfollowed := true, recurses := true, apart := false }
def FnGripsSaid : Prop := fnGripsRow.holds Try.pinned (OpenSpec.ofChange fnGripsSpec)

/-- ITS FALSE NEIGHBOUR: 'it returns false'. Refute it at one input. -/
def fnGripsWrong : ChangeSpec := { name := "fnGrips", fn := fun _ => fun
  | [d] => { results := [.lit (.bool false)], args := [d] }
  | _ => none }
def FnGripsWrongFalsely : Prop := fnGripsRow.holds Try.pinned (OpenSpec.ofChange fnGripsWrong)

/-- 'laws.FnGripLists': WHATEVER THE INPUT: true; the input reads as it did. -/
def fnGripListsSpec : ChangeSpec := { name := "fnGripLists", fn := fun _ => fun
  | [d] => { results := [.lit (.bool true)], args := [d] }
  | _ => none }
def fnGripListsRow : OpenClaim := { program := "ytiogjocbiagipaa", sum := "d3279ba8ded0f998b9c58ee1ca509c3bf8ae94727822f1febfcad53835825326", func := "loop.example/g00935/laws.FnGripLists", spec := "fnGripLists", unfollowed := true, recurses := true, apart := false }
def FnGripListsSaid : Prop := fnGripListsRow.holds Try.pinned (OpenSpec.ofChange fnGripListsSpec)

/-- ITS FALSE NEIGHBOUR: 'it returns false'. Refute it at one input. -/
def fnGripListsWrong : ChangeSpec := { name := "fnGripLists", fn := fun _ => fun
  | [d] => { results := [.lit (.bool false)], args := [d] }
  | _ => none }
def FnGripListsWrongFalsely : Prop := fnGripListsRow.holds Try.pinned (OpenSpec.ofChange fnGripListsWrong)

/-- 'laws.FnExactIsGrip': WHATEVER THE INPUT: true; the input reads as it did. -/
def fnExactIsGripSpec : ChangeSpec := { name := "fnExactIsGrip", fn := fun _ => fun
  | [d] => { results := [.lit (.bool true)], args := [d] }
  | _ => none }
def fnExactIsGripRow : OpenClaim := { program := "ytiogjocbiagipaa", sum := "d3279ba8ded0f998b9c58ee1ca509c3bf8ae94727822f1febfcad53835825326", func := "loop.example/g00935/laws.FnExactIsGrip", spec := "fnExactIsGrip", apart := false }
def FnExactIsGripSaid : Prop := fnExactIsGripRow.holds Try.pinned (OpenSpec.ofChange fnExactIsGripSpec)

/-- ITS FALSE NEIGHBOUR: 'it returns false'. Refute it at one input. -/
def fnExactIsGripWrong : ChangeSpec := { name := "fnExactIsGrip", fn := fun _ => fun
  | [d] => { results := [.lit (.bool false)], args := [d] }
  | _ => none }
def FnExactIsGripWrongFalsely : Prop := fnExactIsGripRow.holds Try.pinned (OpenSpec.ofChange fnExactIsGripWrong)

/-- 'laws.FnExactAreGrips': WHATEVER THE INPUT: true; the input reads as it did. -/
def fnExactAreGripsSpec : ChangeSpec := { name := "fnExactAreGrips", fn := fun _ => fun
  | [d] => { results := [.lit (.bool true)], args := [d] }
  | _ => none }
def fnExactAreGripsRow : OpenClaim := { program := "ytiogjocbiagipaa", sum := "d3279ba8ded0f998b9c58ee1ca509c3bf8ae94727822f1febfcad53835825326", func := "loop.example/g00935/laws.FnExactAreGrips", spec := "fnExactAreGrips", unfollowed := true, recurses := true, apart := false }
def FnExactAreGripsSaid : Prop := fnExactAreGripsRow.holds Try.pinned (OpenSpec.ofChange fnExactAreGripsSpec)

/-- ITS FALSE NEIGHBOUR: 'it returns false'. Refute it at one input. -/
def fnExactAreGripsWrong : ChangeSpec := { name := "fnExactAreGrips", fn := fun _ => fun
  | [d] => { results := [.lit (.bool false)], args := [d] }
  | _ => none }
def FnExactAreGripsWrongFalsely : Prop := fnExactAreGripsRow.holds Try.pinned (OpenSpec.ofChange fnExactAreGripsWrong)

/-- 'laws.FnExactPullOf': WHATEVER THE INPUT: true; the input reads as it did. -/
def fnExactPullOfSpec : ChangeSpec := { name := "fnExactPullOf", fn := fun _ => fun
  | [d1, d2] => { results := [.lit (.bool true)], args := [d1, d2] }
  | _ => none }
def fnExactPullOfRow : OpenClaim := { program := "ytiogjocbiagipaa", sum := "d3279ba8ded0f998b9c58ee1ca509c3bf8ae94727822f1febfcad53835825326", func := "loop.example/g00935/laws.FnExactPullOf", spec := "fnExactPullOf", apart := false }
def FnExactPullOfSaid : Prop := fnExactPullOfRow.holds Try.pinned (OpenSpec.ofChange fnExactPullOfSpec)

/-- ITS FALSE NEIGHBOUR: 'it returns false'. Refute it at one input. -/
def fnExactPullOfWrong : ChangeSpec := { name := "fnExactPullOf", fn := fun _ => fun
  | [d1, d2] => { results := [.lit (.bool false)], args := [d1, d2] }
  | _ => none }
def FnExactPullOfWrongFalsely : Prop := fnExactPullOfRow.holds Try.pinned (OpenSpec.ofChange fnExactPullOfWrong)

/-- 'laws.FnExactDoesHold': WHATEVER THE INPUT: true; the input reads as it did. -/
def fnExactDoesHoldSpec : ChangeSpec := { name := "fnExactDoesHold", fn := fun _ => fun
  | [d1, d2, d3] => { results := [.lit (.bool true)], args := [d1, d2, d3] }
  | _ => none }
def fnExactDoesHoldRow : OpenClaim := { program := "ytiogjocbiagipaa", sum := "d3279ba8ded0f998b9c58ee1ca509c3bf8ae94727822f1febfcad53835825326", func := "loop.example/g00935/laws.FnExactDoesHold", spec := "fnExactDoesHold", apart := false }
def FnExactDoesHoldSaid : Prop := fnExactDoesHoldRow.holds Try.pinned (OpenSpec.ofChange fnExactDoesHoldSpec)

/-- ITS FALSE NEIGHBOUR: 'it returns false'. Refute it at one input. -/
def fnExactDoesHoldWrong : ChangeSpec := { name := "fnExactDoesHold", fn := fun _ => fun
  | [d1, d2, d3] => { results := [.lit (.bool false)], args := [d1, d2, d3] }
  | _ => none }
def FnExactDoesHoldWrongFalsely : Prop := fnExactDoesHoldRow.holds Try.pinned (OpenSpec.ofChange fnExactDoesHoldWrong)

/-- 'laws.FnExactSteepestHeld': WHATEVER THE INPUT: true; the input reads as it did. -/
def fnExactSteepestHeldSpec : ChangeSpec := { name := "fnExactSteepestHeld", fn := fun _ => fun
  | [d1, d2] => { results := [.lit (.bool true)], args := [d1, d2] }
  | _ => none }
def fnExactSteepestHeldRow : OpenClaim := { program := "ytiogjocbiagipaa", sum := "d3279ba8ded0f998b9c58ee1ca509c3bf8ae94727822f1febfcad53835825326", func := "loop.example/g00935/laws.FnExactSteepestHeld", spec := "fnExactSteepestHeld", apart := false }
def FnExactSteepestHeldSaid : Prop := fnExactSteepestHeldRow.holds Try.pinned (OpenSpec.ofChange fnExactSteepestHeldSpec)

/-- ITS FALSE NEIGHBOUR: 'it returns false'. Refute it at one input. -/
def fnExactSteepestHeldWrong : ChangeSpec := { name := "fnExactSteepestHeld", fn := fun _ => fun
  | [d1, d2] => { results := [.lit (.bool false)], args := [d1, d2] }
  | _ => none }
def FnExactSteepestHeldWrongFalsely : Prop := fnExactSteepestHeldRow.holds Try.pinned (OpenSpec.ofChange fnExactSteepestHeldWrong)

/-- 'laws.FnExactOpenGrip': WHATEVER THE INPUT: true; the input reads as it did. -/
def fnExactOpenGripSpec : ChangeSpec := { name := "fnExactOpenGrip", fn := fun _ => fun
  | [d1, d2, d3] => { results := [.lit (.bool true)], args := [d1, d2, d3] }
  | _ => none }
def fnExactOpenGripRow : OpenClaim := { program := "ytiogjocbiagipaa", sum := "d3279ba8ded0f998b9c58ee1ca509c3bf8ae94727822f1febfcad53835825326", func := "loop.example/g00935/laws.FnExactOpenGrip", spec := "fnExactOpenGrip", unfollowed := true, recurses := true, apart := false }
def FnExactOpenGripSaid : Prop := fnExactOpenGripRow.holds Try.pinned (OpenSpec.ofChange fnExactOpenGripSpec)

/-- ITS FALSE NEIGHBOUR: 'it returns false'. Refute it at one input. -/
def fnExactOpenGripWrong : ChangeSpec := { name := "fnExactOpenGrip", fn := fun _ => fun
  | [d1, d2, d3] => { results := [.lit (.bool false)], args := [d1, d2, d3] }
  | _ => none }
def FnExactOpenGripWrongFalsely : Prop := fnExactOpenGripRow.holds Try.pinned (OpenSpec.ofChange fnExactOpenGripWrong)

/-- 'laws.FnExactTestGrip': WHATEVER THE INPUT: true; the input reads as it did. -/
def fnExactTestGripSpec : ChangeSpec := { name := "fnExactTestGrip", fn := fun _ => fun
  | [d1, d2, d3, d4] => { results := [.lit (.bool true)], args := [d1, d2, d3, d4] }
  | _ => none }
def fnExactTestGripRow : OpenClaim := { program := "ytiogjocbiagipaa", sum := "d3279ba8ded0f998b9c58ee1ca509c3bf8ae94727822f1febfcad53835825326", func := "loop.example/g00935/laws.FnExactTestGrip", spec := "fnExactTestGrip", unfollowed := true, recurses := true, apart := false }
def FnExactTestGripSaid : Prop := fnExactTestGripRow.holds Try.pinned (OpenSpec.ofChange fnExactTestGripSpec)

/-- ITS FALSE NEIGHBOUR: 'it returns false'. Refute it at one input. -/
def fnExactTestGripWrong : ChangeSpec := { name := "fnExactTestGrip", fn := fun _ => fun
  | [d1, d2, d3, d4] => { results := [.lit (.bool false)], args := [d1, d2, d3, d4] }
  | _ => none }
def FnExactTestGripWrongFalsely : Prop := fnExactTestGripRow.holds Try.pinned (OpenSpec.ofChange fnExactTestGripWrong)

/-- 'laws.FnExactDueTests': WHATEVER THE INPUT: true; the input reads as it did. -/
def fnExactDueTestsSpec : ChangeSpec := { name := "fnExactDueTests", fn := fun _ => fun
  | [d1, d2] => { results := [.lit (.bool true)], args := [d1, d2] }
  | _ => none }
def fnExactDueTestsRow : OpenClaim := { program := "ytiogjocbiagipaa", sum := "d3279ba8ded0f998b9c58ee1ca509c3bf8ae94727822f1febfcad53835825326", func := "loop.example/g00935/laws.FnExactDueTests", spec := "fnExactDueTests", unfollowed := true, recurses := true, apart := false }
def FnExactDueTestsSaid : Prop := fnExactDueTestsRow.holds Try.pinned (OpenSpec.ofChange fnExactDueTestsSpec)

/-- ITS FALSE NEIGHBOUR: 'it returns false'. Refute it at one input. -/
def fnExactDueTestsWrong : ChangeSpec := { name := "fnExactDueTests", fn := fun _ => fun
  | [d1, d2] => { results := [.lit (.bool false)], args := [d1, d2] }
  | _ => none }
def FnExactDueTestsWrongFalsely : Prop := fnExactDueTestsRow.holds Try.pinned (OpenSpec.ofChange fnExactDueTestsWrong)

/-- 'laws.FnExactWeakestGrip': WHATEVER THE INPUT: true; the input reads as it did. -/
def fnExactWeakestGripSpec : ChangeSpec := { name := "fnExactWeakestGrip", fn := fun _ => fun
  | [d] => { results := [.lit (.bool true)], args := [d] }
  | _ => none }
def fnExactWeakestGripRow : OpenClaim := { program := "ytiogjocbiagipaa", sum := "d3279ba8ded0f998b9c58ee1ca509c3bf8ae94727822f1febfcad53835825326", func := "loop.example/g00935/laws.FnExactWeakestGrip", spec := "fnExactWeakestGrip", unfollowed := true, recurses := true, apart := false }
def FnExactWeakestGripSaid : Prop := fnExactWeakestGripRow.holds Try.pinned (OpenSpec.ofChange fnExactWeakestGripSpec)

/-- ITS FALSE NEIGHBOUR: 'it returns false'. Refute it at one input. -/
def fnExactWeakestGripWrong : ChangeSpec := { name := "fnExactWeakestGrip", fn := fun _ => fun
  | [d] => { results := [.lit (.bool false)], args := [d] }
  | _ => none }
def FnExactWeakestGripWrongFalsely : Prop := fnExactWeakestGripRow.holds Try.pinned (OpenSpec.ofChange fnExactWeakestGripWrong)

/-- 'laws.FnExactAllHold': WHATEVER THE INPUT: true; the input reads as it did. -/
def fnExactAllHoldSpec : ChangeSpec := { name := "fnExactAllHold", fn := fun _ => fun
  | [d1, d2, d3] => { results := [.lit (.bool true)], args := [d1, d2, d3] }
  | _ => none }
def fnExactAllHoldRow : OpenClaim := { program := "ytiogjocbiagipaa", sum := "d3279ba8ded0f998b9c58ee1ca509c3bf8ae94727822f1febfcad53835825326", func := "loop.example/g00935/laws.FnExactAllHold", spec := "fnExactAllHold", unfollowed := true, recurses := true, apart := false }
def FnExactAllHoldSaid : Prop := fnExactAllHoldRow.holds Try.pinned (OpenSpec.ofChange fnExactAllHoldSpec)

/-- ITS FALSE NEIGHBOUR: 'it returns false'. Refute it at one input. -/
def fnExactAllHoldWrong : ChangeSpec := { name := "fnExactAllHold", fn := fun _ => fun
  | [d1, d2, d3] => { results := [.lit (.bool false)], args := [d1, d2, d3] }
  | _ => none }
def FnExactAllHoldWrongFalsely : Prop := fnExactAllHoldRow.holds Try.pinned (OpenSpec.ofChange fnExactAllHoldWrong)

/- THE SECOND FORM. 'bulk': how many values and letters a reading holds, each counted each time it is reached (what is shared counts as often as it is met; a slice's spare places count too). A statement '..UptoSaid' is the law's where the arguments, and the package variables that the reading takes, are together of bulk at most 1048576: NARROWER than '..Said'. Prove '..Said' where nothing that the law and all that it calls make is longer than what came in: it says more and counts as full. Else prove '..UptoSaid'. A law counts once. -/
mutual
def uptoBulk {H : Type} : DataW H → Nat
  | .lit (.string bytes) => bytes.length + 1
  | .lit _ => 1
  | .nil => 1
  | .ptr d => uptoBulk d + 1
  | .slice elems spare => uptoBulkAll elems + uptoBulkAll spare + 1
  | .agg parts => uptoBulkAll parts + 1
  | .iface _ d => uptoBulk d + 1
  | .map entries => uptoBulkEntries entries + 1
  | .held _ => 1
def uptoBulkAll {H : Type} : List (DataW H) → Nat
  | [] => 0
  | d :: r => uptoBulk d + uptoBulkAll r
def uptoBulkEntries {H : Type} : List (Lit × DataW H) → Nat
  | [] => 0
  | x :: r => uptoBulkEntry x + uptoBulkEntries r
def uptoBulkEntry {H : Type} : Lit × DataW H → Nat
  | (.string bytes, d) => bytes.length + uptoBulk d + 1
  | (_, d) => uptoBulk d + 1
 end
def uptoSmall : (H : Type) → List (DataW H) → Bool := fun _ ds => decide (uptoBulkAll ds ≤ 1048576)
def OpenSpec.upto (s : _root_.Go.ChangeSpec) : _root_.Go.OpenSpec := { _root_.Go.OpenSpec.ofChange s with cond := some uptoSmall }

/-- 'laws.FnGrips', WHERE WHAT IT READS IS OF BULK AT MOST 1048576: true; the input reads as it did. -/
def fnGripsUptoRow : OpenClaim := { program := "ytiogjocbiagipaa", sum := "d3279ba8ded0f998b9c58ee1ca509c3bf8ae94727822f1febfcad53835825326", func := "loop.example/g00935/laws.FnGrips", spec := "fnGrips", unfollowed := true, recurses := true, apart := false, narrowed := true }
def FnGripsUptoSaid : Prop := fnGripsUptoRow.holds Try.pinned (OpenSpec.upto fnGripsSpec)

/-- 'laws.FnGripLists', WHERE WHAT IT READS IS OF BULK AT MOST 1048576: true; the input reads as it did. -/
def fnGripListsUptoRow : OpenClaim := { program := "ytiogjocbiagipaa", sum := "d3279ba8ded0f998b9c58ee1ca509c3bf8ae94727822f1febfcad53835825326", func := "loop.example/g00935/laws.FnGripLists", spec := "fnGripLists", unfollowed := true, recurses := true, apart := false, narrowed := true }
def FnGripListsUptoSaid : Prop := fnGripListsUptoRow.holds Try.pinned (OpenSpec.upto fnGripListsSpec)

/-- 'laws.FnExactIsGrip', WHERE WHAT IT READS IS OF BULK AT MOST 1048576: true; the input reads as it did. -/
def fnExactIsGripUptoRow : OpenClaim := { program := "ytiogjocbiagipaa", sum := "d3279ba8ded0f998b9c58ee1ca509c3bf8ae94727822f1febfcad53835825326", func := "loop.example/g00935/laws.FnExactIsGrip", spec := "fnExactIsGrip", apart := false, narrowed := true }
def FnExactIsGripUptoSaid : Prop := fnExactIsGripUptoRow.holds Try.pinned (OpenSpec.upto fnExactIsGripSpec)

/-- 'laws.FnExactAreGrips', WHERE WHAT IT READS IS OF BULK AT MOST 1048576: true; the input reads as it did. -/
def fnExactAreGripsUptoRow : OpenClaim := { program := "ytiogjocbiagipaa", sum := "d3279ba8ded0f998b9c58ee1ca509c3bf8ae94727822f1febfcad53835825326", func := "loop.example/g00935/laws.FnExactAreGrips", spec := "fnExactAreGrips", unfollowed := true, recurses := true, apart := false, narrowed := true }
def FnExactAreGripsUptoSaid : Prop := fnExactAreGripsUptoRow.holds Try.pinned (OpenSpec.upto fnExactAreGripsSpec)

/-- 'laws.FnExactPullOf', WHERE WHAT IT READS IS OF BULK AT MOST 1048576: true; the input reads as it did. -/
def fnExactPullOfUptoRow : OpenClaim := { program := "ytiogjocbiagipaa", sum := "d3279ba8ded0f998b9c58ee1ca509c3bf8ae94727822f1febfcad53835825326", func := "loop.example/g00935/laws.FnExactPullOf", spec := "fnExactPullOf", apart := false, narrowed := true }
def FnExactPullOfUptoSaid : Prop := fnExactPullOfUptoRow.holds Try.pinned (OpenSpec.upto fnExactPullOfSpec)

/-- 'laws.FnExactDoesHold', WHERE WHAT IT READS IS OF BULK AT MOST 1048576: true; the input reads as it did. -/
def fnExactDoesHoldUptoRow : OpenClaim := { program := "ytiogjocbiagipaa", sum := "d3279ba8ded0f998b9c58ee1ca509c3bf8ae94727822f1febfcad53835825326", func := "loop.example/g00935/laws.FnExactDoesHold", spec := "fnExactDoesHold", apart := false, narrowed := true }
def FnExactDoesHoldUptoSaid : Prop := fnExactDoesHoldUptoRow.holds Try.pinned (OpenSpec.upto fnExactDoesHoldSpec)

/-- 'laws.FnExactSteepestHeld', WHERE WHAT IT READS IS OF BULK AT MOST 1048576: true; the input reads as it did. -/
def fnExactSteepestHeldUptoRow : OpenClaim := { program := "ytiogjocbiagipaa", sum := "d3279ba8ded0f998b9c58ee1ca509c3bf8ae94727822f1febfcad53835825326", func := "loop.example/g00935/laws.FnExactSteepestHeld", spec := "fnExactSteepestHeld", apart := false, narrowed := true }
def FnExactSteepestHeldUptoSaid : Prop := fnExactSteepestHeldUptoRow.holds Try.pinned (OpenSpec.upto fnExactSteepestHeldSpec)

/-- 'laws.FnExactOpenGrip', WHERE WHAT IT READS IS OF BULK AT MOST 1048576: true; the input reads as it did. -/
def fnExactOpenGripUptoRow : OpenClaim := { program := "ytiogjocbiagipaa", sum := "d3279ba8ded0f998b9c58ee1ca509c3bf8ae94727822f1febfcad53835825326", func := "loop.example/g00935/laws.FnExactOpenGrip", spec := "fnExactOpenGrip", unfollowed := true, recurses := true, apart := false, narrowed := true }
def FnExactOpenGripUptoSaid : Prop := fnExactOpenGripUptoRow.holds Try.pinned (OpenSpec.upto fnExactOpenGripSpec)

/-- 'laws.FnExactTestGrip', WHERE WHAT IT READS IS OF BULK AT MOST 1048576: true; the input reads as it did. -/
def fnExactTestGripUptoRow : OpenClaim := { program := "ytiogjocbiagipaa", sum := "d3279ba8ded0f998b9c58ee1ca509c3bf8ae94727822f1febfcad53835825326", func := "loop.example/g00935/laws.FnExactTestGrip", spec := "fnExactTestGrip", unfollowed := true, recurses := true, apart := false, narrowed := true }
def FnExactTestGripUptoSaid : Prop := fnExactTestGripUptoRow.holds Try.pinned (OpenSpec.upto fnExactTestGripSpec)

/-- 'laws.FnExactDueTests', WHERE WHAT IT READS IS OF BULK AT MOST 1048576: true; the input reads as it did. -/
def fnExactDueTestsUptoRow : OpenClaim := { program := "ytiogjocbiagipaa", sum := "d3279ba8ded0f998b9c58ee1ca509c3bf8ae94727822f1febfcad53835825326", func := "loop.example/g00935/laws.FnExactDueTests", spec := "fnExactDueTests", unfollowed := true, recurses := true, apart := false, narrowed := true }
def FnExactDueTestsUptoSaid : Prop := fnExactDueTestsUptoRow.holds Try.pinned (OpenSpec.upto fnExactDueTestsSpec)

/-- 'laws.FnExactWeakestGrip', WHERE WHAT IT READS IS OF BULK AT MOST 1048576: true; the input reads as it did. -/
def fnExactWeakestGripUptoRow : OpenClaim := { program := "ytiogjocbiagipaa", sum := "d3279ba8ded0f998b9c58ee1ca509c3bf8ae94727822f1febfcad53835825326", func := "loop.example/g00935/laws.FnExactWeakestGrip", spec := "fnExactWeakestGrip", unfollowed := true, recurses := true, apart := false, narrowed := true }
def FnExactWeakestGripUptoSaid : Prop := fnExactWeakestGripUptoRow.holds Try.pinned (OpenSpec.upto fnExactWeakestGripSpec)

/-- 'laws.FnExactAllHold', WHERE WHAT IT READS IS OF BULK AT MOST 1048576: true; the input reads as it did. -/
def fnExactAllHoldUptoRow : OpenClaim := { program := "ytiogjocbiagipaa", sum := "d3279ba8ded0f998b9c58ee1ca509c3bf8ae94727822f1febfcad53835825326", func := "loop.example/g00935/laws.FnExactAllHold", spec := "fnExactAllHold", unfollowed := true, recurses := true, apart := false, narrowed := true }
def FnExactAllHoldUptoSaid : Prop := fnExactAllHoldUptoRow.holds Try.pinned (OpenSpec.upto fnExactAllHoldSpec)

end Rows
end Go.Proofs.Ytiogjocbiagipaa
