/-
  No cell of these rows narrows 'for every input' (looked for: loops, veiled, ifaces, maps, wideKeys, modest, calm, conditions, laid).
  DERIVED. THE GIVEN ROWS OF THIS SEAT. 12 by the template 'for every input the law returns true; each argument reads behind the call as it read before'; 0 by the template 'total and deterministic' (their statements: YtdnmmafnjhgeiaaTotals.lean).
  GIVEN WITH THE SEED: the statements are not yours to turn. If you find one false, say at which input.
  Laid BY PROGRAM, IN A SANDBOX (cutbox-rows.mjs): the forced cells as the released guide's own fill.sh prints them over the translation eae091f986c81512… (all of the seat's roots in one cut). By AI agents, Wed Nov 11 2026. No macro, syntax, notation, axiom, sorry.
-/
import Derived.Test.YtdnmmafnjhgeiaaChecked
import GoSem.Claim
import GoSem.ClaimJoined
import GoSem.ClaimMapViews
import Derived.JoinedTies
import Derived.KernelRfl
namespace Go.Proofs.Ytdnmmafnjhgeiaa
/- THE CELL 'sum', in the pinned program and in every row, IS THE sha256 OF THE DUMP (.gsa) THAT YtdnmmafnjhgeiaaProg.lean LOADS. Nothing in Lean hashes anything: it is a label: what it is worth is what the hold of that sum in a sandbox is worth. -/
noncomputable def Try.pinned : Pinned := { name := "ytdnmmafnjhgeiaa", sum := "eae091f986c815125f0f47237026f5322f4edf6a7422208ab86233893f3030ce", checked := Try.checked }
namespace Rows
def none {H : Type} : Left H := { results := [], args := [] }

/-- 'laws.FnSafety': WHATEVER THE INPUT: true; the input reads as it did. -/
def fnSafetySpec : ChangeSpec := { name := "fnSafety", fn := fun _ => fun
  | [d] => { results := [.lit (.bool true)], args := [d] }
  | _ => none }
def fnSafetyRow : OpenClaim := { program := "ytdnmmafnjhgeiaa", sum := "eae091f986c815125f0f47237026f5322f4edf6a7422208ab86233893f3030ce", func := "loop.example/g00935/laws.FnSafety", spec := "fnSafety", unfollowed := true, recurses := true, apart := false }
def FnSafetySaid : Prop := fnSafetyRow.holds Try.pinned (OpenSpec.ofChange fnSafetySpec)

/-- ITS FALSE NEIGHBOUR: 'it returns false'. Refute it at one input. -/
def fnSafetyWrong : ChangeSpec := { name := "fnSafety", fn := fun _ => fun
  | [d] => { results := [.lit (.bool false)], args := [d] }
  | _ => none }
def FnSafetyWrongFalsely : Prop := fnSafetyRow.holds Try.pinned (OpenSpec.ofChange fnSafetyWrong)

/-- 'laws.FnExactIsLoadCase': WHATEVER THE INPUT: true; the input reads as it did. -/
def fnExactIsLoadCaseSpec : ChangeSpec := { name := "fnExactIsLoadCase", fn := fun _ => fun
  | [d] => { results := [.lit (.bool true)], args := [d] }
  | _ => none }
def fnExactIsLoadCaseRow : OpenClaim := { program := "ytdnmmafnjhgeiaa", sum := "eae091f986c815125f0f47237026f5322f4edf6a7422208ab86233893f3030ce", func := "loop.example/g00935/laws.FnExactIsLoadCase", spec := "fnExactIsLoadCase", apart := false }
def FnExactIsLoadCaseSaid : Prop := fnExactIsLoadCaseRow.holds Try.pinned (OpenSpec.ofChange fnExactIsLoadCaseSpec)

/-- ITS FALSE NEIGHBOUR: 'it returns false'. Refute it at one input. -/
def fnExactIsLoadCaseWrong : ChangeSpec := { name := "fnExactIsLoadCase", fn := fun _ => fun
  | [d] => { results := [.lit (.bool false)], args := [d] }
  | _ => none }
def FnExactIsLoadCaseWrongFalsely : Prop := fnExactIsLoadCaseRow.holds Try.pinned (OpenSpec.ofChange fnExactIsLoadCaseWrong)

/-- 'laws.FnExactUpTensions': WHATEVER THE INPUT: true; the input reads as it did. -/
def fnExactUpTensionsSpec : ChangeSpec := { name := "fnExactUpTensions", fn := fun _ => fun
  | [d1, d2] => { results := [.lit (.bool true)], args := [d1, d2] }
  | _ => none }
def fnExactUpTensionsRow : OpenClaim := { program := "ytdnmmafnjhgeiaa", sum := "eae091f986c815125f0f47237026f5322f4edf6a7422208ab86233893f3030ce", func := "loop.example/g00935/laws.FnExactUpTensions", spec := "fnExactUpTensions", apart := false }
def FnExactUpTensionsSaid : Prop := fnExactUpTensionsRow.holds Try.pinned (OpenSpec.ofChange fnExactUpTensionsSpec)

/-- ITS FALSE NEIGHBOUR: 'it returns false'. Refute it at one input. -/
def fnExactUpTensionsWrong : ChangeSpec := { name := "fnExactUpTensions", fn := fun _ => fun
  | [d1, d2] => { results := [.lit (.bool false)], args := [d1, d2] }
  | _ => none }
def FnExactUpTensionsWrongFalsely : Prop := fnExactUpTensionsRow.holds Try.pinned (OpenSpec.ofChange fnExactUpTensionsWrong)

/-- 'laws.FnExactDownTensions': WHATEVER THE INPUT: true; the input reads as it did. -/
def fnExactDownTensionsSpec : ChangeSpec := { name := "fnExactDownTensions", fn := fun _ => fun
  | [d1, d2] => { results := [.lit (.bool true)], args := [d1, d2] }
  | _ => none }
def fnExactDownTensionsRow : OpenClaim := { program := "ytdnmmafnjhgeiaa", sum := "eae091f986c815125f0f47237026f5322f4edf6a7422208ab86233893f3030ce", func := "loop.example/g00935/laws.FnExactDownTensions", spec := "fnExactDownTensions", apart := false }
def FnExactDownTensionsSaid : Prop := fnExactDownTensionsRow.holds Try.pinned (OpenSpec.ofChange fnExactDownTensionsSpec)

/-- ITS FALSE NEIGHBOUR: 'it returns false'. Refute it at one input. -/
def fnExactDownTensionsWrong : ChangeSpec := { name := "fnExactDownTensions", fn := fun _ => fun
  | [d1, d2] => { results := [.lit (.bool false)], args := [d1, d2] }
  | _ => none }
def FnExactDownTensionsWrongFalsely : Prop := fnExactDownTensionsRow.holds Try.pinned (OpenSpec.ofChange fnExactDownTensionsWrong)

/-- 'laws.FnExactDriveForce': WHATEVER THE INPUT: true; the input reads as it did. -/
def fnExactDriveForceSpec : ChangeSpec := { name := "fnExactDriveForce", fn := fun _ => fun
  | [d1, d2] => { results := [.lit (.bool true)], args := [d1, d2] }
  | _ => none }
def fnExactDriveForceRow : OpenClaim := { program := "ytdnmmafnjhgeiaa", sum := "eae091f986c815125f0f47237026f5322f4edf6a7422208ab86233893f3030ce", func := "loop.example/g00935/laws.FnExactDriveForce", spec := "fnExactDriveForce", apart := false }
def FnExactDriveForceSaid : Prop := fnExactDriveForceRow.holds Try.pinned (OpenSpec.ofChange fnExactDriveForceSpec)

/-- ITS FALSE NEIGHBOUR: 'it returns false'. Refute it at one input. -/
def fnExactDriveForceWrong : ChangeSpec := { name := "fnExactDriveForce", fn := fun _ => fun
  | [d1, d2] => { results := [.lit (.bool false)], args := [d1, d2] }
  | _ => none }
def FnExactDriveForceWrongFalsely : Prop := fnExactDriveForceRow.holds Try.pinned (OpenSpec.ofChange fnExactDriveForceWrong)

/-- 'laws.FnExactGreatestTension': WHATEVER THE INPUT: true; the input reads as it did. -/
def fnExactGreatestTensionSpec : ChangeSpec := { name := "fnExactGreatestTension", fn := fun _ => fun
  | [d1, d2] => { results := [.lit (.bool true)], args := [d1, d2] }
  | _ => none }
def fnExactGreatestTensionRow : OpenClaim := { program := "ytdnmmafnjhgeiaa", sum := "eae091f986c815125f0f47237026f5322f4edf6a7422208ab86233893f3030ce", func := "loop.example/g00935/laws.FnExactGreatestTension", spec := "fnExactGreatestTension", apart := false }
def FnExactGreatestTensionSaid : Prop := fnExactGreatestTensionRow.holds Try.pinned (OpenSpec.ofChange fnExactGreatestTensionSpec)

/-- ITS FALSE NEIGHBOUR: 'it returns false'. Refute it at one input. -/
def fnExactGreatestTensionWrong : ChangeSpec := { name := "fnExactGreatestTension", fn := fun _ => fun
  | [d1, d2] => { results := [.lit (.bool false)], args := [d1, d2] }
  | _ => none }
def FnExactGreatestTensionWrongFalsely : Prop := fnExactGreatestTensionRow.holds Try.pinned (OpenSpec.ofChange fnExactGreatestTensionWrong)

/-- 'laws.FnExactLeastCounter': WHATEVER THE INPUT: true; the input reads as it did. -/
def fnExactLeastCounterSpec : ChangeSpec := { name := "fnExactLeastCounter", fn := fun _ => fun
  | [d1, d2] => { results := [.lit (.bool true)], args := [d1, d2] }
  | _ => none }
def fnExactLeastCounterRow : OpenClaim := { program := "ytdnmmafnjhgeiaa", sum := "eae091f986c815125f0f47237026f5322f4edf6a7422208ab86233893f3030ce", func := "loop.example/g00935/laws.FnExactLeastCounter", spec := "fnExactLeastCounter", apart := false }
def FnExactLeastCounterSaid : Prop := fnExactLeastCounterRow.holds Try.pinned (OpenSpec.ofChange fnExactLeastCounterSpec)

/-- ITS FALSE NEIGHBOUR: 'it returns false'. Refute it at one input. -/
def fnExactLeastCounterWrong : ChangeSpec := { name := "fnExactLeastCounter", fn := fun _ => fun
  | [d1, d2] => { results := [.lit (.bool false)], args := [d1, d2] }
  | _ => none }
def FnExactLeastCounterWrongFalsely : Prop := fnExactLeastCounterRow.holds Try.pinned (OpenSpec.ofChange fnExactLeastCounterWrong)

/-- 'laws.FnExactSafetyAt': WHATEVER THE INPUT: true; the input reads as it did. -/
def fnExactSafetyAtSpec : ChangeSpec := { name := "fnExactSafetyAt", fn := fun _ => fun
  | [d1, d2, d3, d4] => { results := [.lit (.bool true)], args := [d1, d2, d3, d4] }
  | _ => none }
def fnExactSafetyAtRow : OpenClaim := { program := "ytdnmmafnjhgeiaa", sum := "eae091f986c815125f0f47237026f5322f4edf6a7422208ab86233893f3030ce", func := "loop.example/g00935/laws.FnExactSafetyAt", spec := "fnExactSafetyAt", apart := false }
def FnExactSafetyAtSaid : Prop := fnExactSafetyAtRow.holds Try.pinned (OpenSpec.ofChange fnExactSafetyAtSpec)

/-- ITS FALSE NEIGHBOUR: 'it returns false'. Refute it at one input. -/
def fnExactSafetyAtWrong : ChangeSpec := { name := "fnExactSafetyAt", fn := fun _ => fun
  | [d1, d2, d3, d4] => { results := [.lit (.bool false)], args := [d1, d2, d3, d4] }
  | _ => none }
def FnExactSafetyAtWrongFalsely : Prop := fnExactSafetyAtRow.holds Try.pinned (OpenSpec.ofChange fnExactSafetyAtWrong)

/-- 'laws.FnExactOverTension': WHATEVER THE INPUT: true; the input reads as it did. -/
def fnExactOverTensionSpec : ChangeSpec := { name := "fnExactOverTension", fn := fun _ => fun
  | [d1, d2, d3] => { results := [.lit (.bool true)], args := [d1, d2, d3] }
  | _ => none }
def fnExactOverTensionRow : OpenClaim := { program := "ytdnmmafnjhgeiaa", sum := "eae091f986c815125f0f47237026f5322f4edf6a7422208ab86233893f3030ce", func := "loop.example/g00935/laws.FnExactOverTension", spec := "fnExactOverTension", unfollowed := true, recurses := true, apart := false }
def FnExactOverTensionSaid : Prop := fnExactOverTensionRow.holds Try.pinned (OpenSpec.ofChange fnExactOverTensionSpec)

/-- ITS FALSE NEIGHBOUR: 'it returns false'. Refute it at one input. -/
def fnExactOverTensionWrong : ChangeSpec := { name := "fnExactOverTension", fn := fun _ => fun
  | [d1, d2, d3] => { results := [.lit (.bool false)], args := [d1, d2, d3] }
  | _ => none }
def FnExactOverTensionWrongFalsely : Prop := fnExactOverTensionRow.holds Try.pinned (OpenSpec.ofChange fnExactOverTensionWrong)

/-- 'laws.FnExactPressAt': WHATEVER THE INPUT: true; the input reads as it did. -/
def fnExactPressAtSpec : ChangeSpec := { name := "fnExactPressAt", fn := fun _ => fun
  | [d1, d2, d3] => { results := [.lit (.bool true)], args := [d1, d2, d3] }
  | _ => none }
def fnExactPressAtRow : OpenClaim := { program := "ytdnmmafnjhgeiaa", sum := "eae091f986c815125f0f47237026f5322f4edf6a7422208ab86233893f3030ce", func := "loop.example/g00935/laws.FnExactPressAt", spec := "fnExactPressAt", apart := false }
def FnExactPressAtSaid : Prop := fnExactPressAtRow.holds Try.pinned (OpenSpec.ofChange fnExactPressAtSpec)

/-- ITS FALSE NEIGHBOUR: 'it returns false'. Refute it at one input. -/
def fnExactPressAtWrong : ChangeSpec := { name := "fnExactPressAt", fn := fun _ => fun
  | [d1, d2, d3] => { results := [.lit (.bool false)], args := [d1, d2, d3] }
  | _ => none }
def FnExactPressAtWrongFalsely : Prop := fnExactPressAtRow.holds Try.pinned (OpenSpec.ofChange fnExactPressAtWrong)

/-- 'laws.FnExactStationsOf': WHATEVER THE INPUT: true; the input reads as it did. -/
def fnExactStationsOfSpec : ChangeSpec := { name := "fnExactStationsOf", fn := fun _ => fun
  | [d] => { results := [.lit (.bool true)], args := [d] }
  | _ => none }
def fnExactStationsOfRow : OpenClaim := { program := "ytdnmmafnjhgeiaa", sum := "eae091f986c815125f0f47237026f5322f4edf6a7422208ab86233893f3030ce", func := "loop.example/g00935/laws.FnExactStationsOf", spec := "fnExactStationsOf", unfollowed := true, recurses := true, apart := false }
def FnExactStationsOfSaid : Prop := fnExactStationsOfRow.holds Try.pinned (OpenSpec.ofChange fnExactStationsOfSpec)

/-- ITS FALSE NEIGHBOUR: 'it returns false'. Refute it at one input. -/
def fnExactStationsOfWrong : ChangeSpec := { name := "fnExactStationsOf", fn := fun _ => fun
  | [d] => { results := [.lit (.bool false)], args := [d] }
  | _ => none }
def FnExactStationsOfWrongFalsely : Prop := fnExactStationsOfRow.holds Try.pinned (OpenSpec.ofChange fnExactStationsOfWrong)

/-- 'laws.FnRopes': WHATEVER THE INPUT: true; the input reads as it did. -/
def fnRopesSpec : ChangeSpec := { name := "fnRopes", fn := fun _ => fun
  | [d] => { results := [.lit (.bool true)], args := [d] }
  | _ => none }
def fnRopesRow : OpenClaim := { program := "ytdnmmafnjhgeiaa", sum := "eae091f986c815125f0f47237026f5322f4edf6a7422208ab86233893f3030ce", func := "loop.example/g00935/laws.FnRopes", spec := "fnRopes", apart := false }
def FnRopesSaid : Prop := fnRopesRow.holds Try.pinned (OpenSpec.ofChange fnRopesSpec)

/-- ITS FALSE NEIGHBOUR: 'it returns false'. Refute it at one input. -/
def fnRopesWrong : ChangeSpec := { name := "fnRopes", fn := fun _ => fun
  | [d] => { results := [.lit (.bool false)], args := [d] }
  | _ => none }
def FnRopesWrongFalsely : Prop := fnRopesRow.holds Try.pinned (OpenSpec.ofChange fnRopesWrong)

/- THE SECOND FORM. 'bulk': how many values and letters a reading holds, each counted each time it is reached (what is shared counts as often as it is met; a slice's spare places count too). A statement '..UptoSaid' is the law's where the arguments, and the package variables that the reading takes, are together of bulk at most 1048576: NARROWER than '..Said'. Prove '..Said' where nothing that the law and all that it calls make is longer than what came in: it says more and counts as full. Else prove '..UptoSaid'. A law counts once. -/
mutual
def uptoBulk {H : Type} : DataW H → Nat
  | .lit (.string bytes) => bytes.length + 1
  | .lit _ => 1
  | .nil => 1
  | .ptr d => uptoBulk d + 1
  | .slice elems spare => uptoBulkAll elems + uptoBulkAll spare + 1
  | .agg parts => uptoBulkAll parts + 1
  | .iface _ d => uptoBulk d + 1
  | .map entries => uptoBulkEntries entries + 1
  | .held _ => 1
def uptoBulkAll {H : Type} : List (DataW H) → Nat
  | [] => 0
  | d :: r => uptoBulk d + uptoBulkAll r
def uptoBulkEntries {H : Type} : List (Lit × DataW H) → Nat
  | [] => 0
  | x :: r => uptoBulkEntry x + uptoBulkEntries r
def uptoBulkEntry {H : Type} : Lit × DataW H → Nat
  | (.string bytes, d) => bytes.length + uptoBulk d + 1
  | (_, d) => uptoBulk d + 1
 end
def uptoSmall : (H : Type) → List (DataW H) → Bool := fun _ ds => decide (uptoBulkAll ds ≤ 1048576)
def OpenSpec.upto (s : _root_.Go.ChangeSpec) : _root_.Go.OpenSpec := { _root_.Go.OpenSpec.ofChange s with cond := some uptoSmall }

/-- 'laws.FnSafety', WHERE WHAT IT READS IS OF BULK AT MOST 1048576: true; the input reads as it did. -/
def fnSafetyUptoRow : OpenClaim := { program := "ytdnmmafnjhgeiaa", sum := "eae091f986c815125f0f47237026f5322f4edf6a7422208ab86233893f3030ce", func := "loop.example/g00935/laws.FnSafety", spec := "fnSafety", unfollowed := true, recurses := true, apart := false, narrowed := true }
def FnSafetyUptoSaid : Prop := fnSafetyUptoRow.holds Try.pinned (OpenSpec.upto fnSafetySpec)

/-- 'laws.FnExactIsLoadCase', WHERE WHAT IT READS IS OF BULK AT MOST 1048576: true; the input reads as it did. -/
def fnExactIsLoadCaseUptoRow : OpenClaim := { program := "ytdnmmafnjhgeiaa", sum := "eae091f986c815125f0f47237026f5322f4edf6a7422208ab86233893f3030ce", func := "loop.example/g00935/laws.FnExactIsLoadCase", spec := "fnExactIsLoadCase", apart := false, narrowed := true }
def FnExactIsLoadCaseUptoSaid : Prop := fnExactIsLoadCaseUptoRow.holds Try.pinned (OpenSpec.upto fnExactIsLoadCaseSpec)

/-- 'laws.FnExactUpTensions', WHERE WHAT IT READS IS OF BULK AT MOST 1048576: true; the input reads as it did. -/
def fnExactUpTensionsUptoRow : OpenClaim := { program := "ytdnmmafnjhgeiaa", sum := "eae091f986c815125f0f47237026f5322f4edf6a7422208ab86233893f3030ce", func := "loop.example/g00935/laws.FnExactUpTensions", spec := "fnExactUpTensions", apart := false, narrowed := true }
def FnExactUpTensionsUptoSaid : Prop := fnExactUpTensionsUptoRow.holds Try.pinned (OpenSpec.upto fnExactUpTensionsSpec)

/-- 'laws.FnExactDownTensions', WHERE WHAT IT READS IS OF BULK AT MOST 1048576: true; the input reads as it did. -/
def fnExactDownTensionsUptoRow : OpenClaim := { program := "ytdnmmafnjhgeiaa", sum := "eae091f986c815125f0f47237026f5322f4edf6a7422208ab86233893f3030ce", func := "loop.example/g00935/laws.FnExactDownTensions", spec := "fnExactDownTensions", apart := false, narrowed := true }
def FnExactDownTensionsUptoSaid : Prop := fnExactDownTensionsUptoRow.holds Try.pinned (OpenSpec.upto fnExactDownTensionsSpec)

/-- 'laws.FnExactDriveForce', WHERE WHAT IT READS IS OF BULK AT MOST 1048576: true; the input reads as it did. -/
def fnExactDriveForceUptoRow : OpenClaim := { program := "ytdnmmafnjhgeiaa", sum := "eae091f986c815125f0f47237026f5322f4edf6a7422208ab86233893f3030ce", func := "loop.example/g00935/laws.FnExactDriveForce", spec := "fnExactDriveForce", apart := false, narrowed := true }
def FnExactDriveForceUptoSaid : Prop := fnExactDriveForceUptoRow.holds Try.pinned (OpenSpec.upto fnExactDriveForceSpec)

/-- 'laws.FnExactGreatestTension', WHERE WHAT IT READS IS OF BULK AT MOST 1048576: true; the input reads as it did. -/
def fnExactGreatestTensionUptoRow : OpenClaim := { program := "ytdnmmafnjhgeiaa", sum := "eae091f986c815125f0f47237026f5322f4edf6a7422208ab86233893f3030ce", func := "loop.example/g00935/laws.FnExactGreatestTension", spec := "fnExactGreatestTension", apart := false, narrowed := true }
def FnExactGreatestTensionUptoSaid : Prop := fnExactGreatestTensionUptoRow.holds Try.pinned (OpenSpec.upto fnExactGreatestTensionSpec)

/-- 'laws.FnExactLeastCounter', WHERE WHAT IT READS IS OF BULK AT MOST 1048576: true; the input reads as it did. -/
def fnExactLeastCounterUptoRow : OpenClaim := { program := "ytdnmmafnjhgeiaa", sum := "eae091f986c815125f0f47237026f5322f4edf6a7422208ab86233893f3030ce", func := "loop.example/g00935/laws.FnExactLeastCounter", spec := "fnExactLeastCounter", apart := false, narrowed := true }
def FnExactLeastCounterUptoSaid : Prop := fnExactLeastCounterUptoRow.holds Try.pinned (OpenSpec.upto fnExactLeastCounterSpec)

/-- 'laws.FnExactSafetyAt', WHERE WHAT IT READS IS OF BULK AT MOST 1048576: true; the input reads as it did. -/
def fnExactSafetyAtUptoRow : OpenClaim := { program := "ytdnmmafnjhgeiaa", sum := "eae091f986c815125f0f47237026f5322f4edf6a7422208ab86233893f3030ce", func := "loop.example/g00935/laws.FnExactSafetyAt", spec := "fnExactSafetyAt", apart := false, narrowed := true }
def FnExactSafetyAtUptoSaid : Prop := fnExactSafetyAtUptoRow.holds Try.pinned (OpenSpec.upto fnExactSafetyAtSpec)

/-- 'laws.FnExactOverTension', WHERE WHAT IT READS IS OF BULK AT MOST 1048576: true; the input reads as it did. -/
def fnExactOverTensionUptoRow : OpenClaim := { program := "ytdnmmafnjhgeiaa", sum := "eae091f986c815125f0f47237026f5322f4edf6a7422208ab86233893f3030ce", func := "loop.example/g00935/laws.FnExactOverTension", spec := "fnExactOverTension", unfollowed := true, recurses := true, apart := false, narrowed := true }
def FnExactOverTensionUptoSaid : Prop := fnExactOverTensionUptoRow.holds Try.pinned (OpenSpec.upto fnExactOverTensionSpec)

/-- 'laws.FnExactPressAt', WHERE WHAT IT READS IS OF BULK AT MOST 1048576: true; the input reads as it did. -/
def fnExactPressAtUptoRow : OpenClaim := { program := "ytdnmmafnjhgeiaa", sum := "eae091f986c815125f0f47237026f5322f4edf6a7422208ab86233893f3030ce", func := "loop.example/g00935/laws.FnExactPressAt", spec := "fnExactPressAt", apart := false, narrowed := true }
def FnExactPressAtUptoSaid : Prop := fnExactPressAtUptoRow.holds Try.pinned (OpenSpec.upto fnExactPressAtSpec)

/-- 'laws.FnExactStationsOf', WHERE WHAT IT READS IS OF BULK AT MOST 1048576: true; the input reads as it did. -/
def fnExactStationsOfUptoRow : OpenClaim := { program := "ytdnmmafnjhgeiaa", sum := "eae091f986c815125f0f47237026f5322f4edf6a7422208ab86233893f3030ce", func := "loop.example/g00935/laws.FnExactStationsOf", spec := "fnExactStationsOf", unfollowed := true, recurses := true, apart := false, narrowed := true }
def FnExactStationsOfUptoSaid : Prop := fnExactStationsOfUptoRow.holds Try.pinned (OpenSpec.upto fnExactStationsOfSpec)

/-- 'laws.FnRopes', WHERE WHAT IT READS IS OF BULK AT MOST 1048576: true; the input reads as it did. -/
def fnRopesUptoRow : OpenClaim := { program := "ytdnmmafnjhgeiaa", sum := "eae091f986c815125f0f47237026f5322f4edf6a7422208ab86233893f3030ce", func := "loop.example/g00935/laws.FnRopes", spec := "fnRopes", apart := false, narrowed := true }
def FnRopesUptoSaid : Prop := fnRopesUptoRow.holds Try.pinned (OpenSpec.upto fnRopesSpec)

end Rows
end Go.Proofs.Ytdnmmafnjhgeiaa
