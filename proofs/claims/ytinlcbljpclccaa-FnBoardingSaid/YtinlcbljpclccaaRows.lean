/-
  No cell of these rows narrows 'for every input' (looked for: loops, veiled, ifaces, maps, wideKeys, modest, calm, conditions, laid).
  DERIVED. THE GIVEN ROWS OF THIS SEAT. 9 by the template 'for every input the law returns true; each argument reads behind the call as it read before'; 0 by the template 'total and deterministic' (their statements: YtinlcbljpclccaaTotals.lean).
  GIVEN WITH THE SEED: the statements are not yours to turn. If you find one false, say at which input.
  Laid BY PROGRAM, IN A SANDBOX (cutbox-rows.mjs): the forced cells as the released guide's own fill.sh prints them over the translation 22a9975fcc980724… (all of the seat's roots in one cut). By AI agents, Wed Nov 11 2026. No macro, syntax, notation, axiom, sorry.
-/
import Derived.Test.YtinlcbljpclccaaChecked
import GoSem.Claim
import GoSem.ClaimJoined
import GoSem.ClaimMapViews
import Derived.JoinedTies
import Derived.KernelRfl
namespace Go.Proofs.Ytinlcbljpclccaa
/- THE CELL 'sum', in the pinned program and in every row, IS THE sha256 OF THE DUMP (.gsa) THAT YtinlcbljpclccaaProg.lean LOADS. Nothing in Lean hashes anything: it is a label: what it is worth is what the hold of that sum in a sandbox is worth. -/
noncomputable def Try.pinned : Pinned := { name := "ytinlcbljpclccaa", sum := "22a9975fcc98072488942c2458d297a1648baf5d1a486811966f3bb42e54acce", checked := Try.checked }
namespace Rows
def none {H : Type} : Left H := { results := [], args := [] }

/-- 'laws.FnBoarding': WHATEVER THE INPUT: true; the input reads as it did. -/
def fnBoardingSpec : ChangeSpec := { name := "fnBoarding", fn := fun _ => fun
  | [d] => { results := [.lit (.bool true)], args := [d] }
  | _ => none }
def fnBoardingRow : OpenClaim := { program := "ytinlcbljpclccaa", sum := "22a9975fcc98072488942c2458d297a1648baf5d1a486811966f3bb42e54acce", func := "loop.example/g00935/laws.FnBoarding", spec := "fnBoarding", apart := false }
def FnBoardingSaid : Prop := fnBoardingRow.holds Try.pinned (OpenSpec.ofChange fnBoardingSpec)

/-- ITS FALSE NEIGHBOUR: 'it returns false'. Refute it at one input. -/
def fnBoardingWrong : ChangeSpec := { name := "fnBoarding", fn := fun _ => fun
  | [d] => { results := [.lit (.bool false)], args := [d] }
  | _ => none }
def FnBoardingWrongFalsely : Prop := fnBoardingRow.holds Try.pinned (OpenSpec.ofChange fnBoardingWrong)

/-- 'laws.FnExactIsPlatform': WHATEVER THE INPUT: true; the input reads as it did. -/
def fnExactIsPlatformSpec : ChangeSpec := { name := "fnExactIsPlatform", fn := fun _ => fun
  | [d] => { results := [.lit (.bool true)], args := [d] }
  | _ => none }
def fnExactIsPlatformRow : OpenClaim := { program := "ytinlcbljpclccaa", sum := "22a9975fcc98072488942c2458d297a1648baf5d1a486811966f3bb42e54acce", func := "loop.example/g00935/laws.FnExactIsPlatform", spec := "fnExactIsPlatform", apart := false }
def FnExactIsPlatformSaid : Prop := fnExactIsPlatformRow.holds Try.pinned (OpenSpec.ofChange fnExactIsPlatformSpec)

/-- ITS FALSE NEIGHBOUR: 'it returns false'. Refute it at one input. -/
def fnExactIsPlatformWrong : ChangeSpec := { name := "fnExactIsPlatform", fn := fun _ => fun
  | [d] => { results := [.lit (.bool false)], args := [d] }
  | _ => none }
def FnExactIsPlatformWrongFalsely : Prop := fnExactIsPlatformRow.holds Try.pinned (OpenSpec.ofChange fnExactIsPlatformWrong)

/-- 'laws.FnExactIsBoardEvent': WHATEVER THE INPUT: true; the input reads as it did. -/
def fnExactIsBoardEventSpec : ChangeSpec := { name := "fnExactIsBoardEvent", fn := fun _ => fun
  | [d] => { results := [.lit (.bool true)], args := [d] }
  | _ => none }
def fnExactIsBoardEventRow : OpenClaim := { program := "ytinlcbljpclccaa", sum := "22a9975fcc98072488942c2458d297a1648baf5d1a486811966f3bb42e54acce", func := "loop.example/g00935/laws.FnExactIsBoardEvent", spec := "fnExactIsBoardEvent", apart := false }
def FnExactIsBoardEventSaid : Prop := fnExactIsBoardEventRow.holds Try.pinned (OpenSpec.ofChange fnExactIsBoardEventSpec)

/-- ITS FALSE NEIGHBOUR: 'it returns false'. Refute it at one input. -/
def fnExactIsBoardEventWrong : ChangeSpec := { name := "fnExactIsBoardEvent", fn := fun _ => fun
  | [d] => { results := [.lit (.bool false)], args := [d] }
  | _ => none }
def FnExactIsBoardEventWrongFalsely : Prop := fnExactIsBoardEventRow.holds Try.pinned (OpenSpec.ofChange fnExactIsBoardEventWrong)

/-- 'laws.FnExactStepPlatform': WHATEVER THE INPUT: true; the input reads as it did. -/
def fnExactStepPlatformSpec : ChangeSpec := { name := "fnExactStepPlatform", fn := fun _ => fun
  | [d1, d2] => { results := [.lit (.bool true)], args := [d1, d2] }
  | _ => none }
def fnExactStepPlatformRow : OpenClaim := { program := "ytinlcbljpclccaa", sum := "22a9975fcc98072488942c2458d297a1648baf5d1a486811966f3bb42e54acce", func := "loop.example/g00935/laws.FnExactStepPlatform", spec := "fnExactStepPlatform", apart := false }
def FnExactStepPlatformSaid : Prop := fnExactStepPlatformRow.holds Try.pinned (OpenSpec.ofChange fnExactStepPlatformSpec)

/-- ITS FALSE NEIGHBOUR: 'it returns false'. Refute it at one input. -/
def fnExactStepPlatformWrong : ChangeSpec := { name := "fnExactStepPlatform", fn := fun _ => fun
  | [d1, d2] => { results := [.lit (.bool false)], args := [d1, d2] }
  | _ => none }
def FnExactStepPlatformWrongFalsely : Prop := fnExactStepPlatformRow.holds Try.pinned (OpenSpec.ofChange fnExactStepPlatformWrong)

/-- 'laws.FnExactRunPlatform': WHATEVER THE INPUT: true; the input reads as it did. -/
def fnExactRunPlatformSpec : ChangeSpec := { name := "fnExactRunPlatform", fn := fun _ => fun
  | [d1, d2] => { results := [.lit (.bool true)], args := [d1, d2] }
  | _ => none }
def fnExactRunPlatformRow : OpenClaim := { program := "ytinlcbljpclccaa", sum := "22a9975fcc98072488942c2458d297a1648baf5d1a486811966f3bb42e54acce", func := "loop.example/g00935/laws.FnExactRunPlatform", spec := "fnExactRunPlatform", apart := false }
def FnExactRunPlatformSaid : Prop := fnExactRunPlatformRow.holds Try.pinned (OpenSpec.ofChange fnExactRunPlatformSpec)

/-- ITS FALSE NEIGHBOUR: 'it returns false'. Refute it at one input. -/
def fnExactRunPlatformWrong : ChangeSpec := { name := "fnExactRunPlatform", fn := fun _ => fun
  | [d1, d2] => { results := [.lit (.bool false)], args := [d1, d2] }
  | _ => none }
def FnExactRunPlatformWrongFalsely : Prop := fnExactRunPlatformRow.holds Try.pinned (OpenSpec.ofChange fnExactRunPlatformWrong)

/-- 'laws.FnExactPossibleKinds': WHATEVER THE INPUT: true; the input reads as it did. -/
def fnExactPossibleKindsSpec : ChangeSpec := { name := "fnExactPossibleKinds", fn := fun _ => fun
  | [d] => { results := [.lit (.bool true)], args := [d] }
  | _ => none }
def fnExactPossibleKindsRow : OpenClaim := { program := "ytinlcbljpclccaa", sum := "22a9975fcc98072488942c2458d297a1648baf5d1a486811966f3bb42e54acce", func := "loop.example/g00935/laws.FnExactPossibleKinds", spec := "fnExactPossibleKinds", apart := false }
def FnExactPossibleKindsSaid : Prop := fnExactPossibleKindsRow.holds Try.pinned (OpenSpec.ofChange fnExactPossibleKindsSpec)

/-- ITS FALSE NEIGHBOUR: 'it returns false'. Refute it at one input. -/
def fnExactPossibleKindsWrong : ChangeSpec := { name := "fnExactPossibleKinds", fn := fun _ => fun
  | [d] => { results := [.lit (.bool false)], args := [d] }
  | _ => none }
def FnExactPossibleKindsWrongFalsely : Prop := fnExactPossibleKindsRow.holds Try.pinned (OpenSpec.ofChange fnExactPossibleKindsWrong)

/-- 'laws.FnExactMostEntering': WHATEVER THE INPUT: true; the input reads as it did. -/
def fnExactMostEnteringSpec : ChangeSpec := { name := "fnExactMostEntering", fn := fun _ => fun
  | [d] => { results := [.lit (.bool true)], args := [d] }
  | _ => none }
def fnExactMostEnteringRow : OpenClaim := { program := "ytinlcbljpclccaa", sum := "22a9975fcc98072488942c2458d297a1648baf5d1a486811966f3bb42e54acce", func := "loop.example/g00935/laws.FnExactMostEntering", spec := "fnExactMostEntering", apart := false }
def FnExactMostEnteringSaid : Prop := fnExactMostEnteringRow.holds Try.pinned (OpenSpec.ofChange fnExactMostEnteringSpec)

/-- ITS FALSE NEIGHBOUR: 'it returns false'. Refute it at one input. -/
def fnExactMostEnteringWrong : ChangeSpec := { name := "fnExactMostEntering", fn := fun _ => fun
  | [d] => { results := [.lit (.bool false)], args := [d] }
  | _ => none }
def FnExactMostEnteringWrongFalsely : Prop := fnExactMostEnteringRow.holds Try.pinned (OpenSpec.ofChange fnExactMostEnteringWrong)

/-- 'laws.FnExactQuickestGo': WHATEVER THE INPUT: true; the input reads as it did. -/
def fnExactQuickestGoSpec : ChangeSpec := { name := "fnExactQuickestGo", fn := fun _ => fun
  | [d] => { results := [.lit (.bool true)], args := [d] }
  | _ => none }
def fnExactQuickestGoRow : OpenClaim := { program := "ytinlcbljpclccaa", sum := "22a9975fcc98072488942c2458d297a1648baf5d1a486811966f3bb42e54acce", func := "loop.example/g00935/laws.FnExactQuickestGo", spec := "fnExactQuickestGo", apart := false }
def FnExactQuickestGoSaid : Prop := fnExactQuickestGoRow.holds Try.pinned (OpenSpec.ofChange fnExactQuickestGoSpec)

/-- ITS FALSE NEIGHBOUR: 'it returns false'. Refute it at one input. -/
def fnExactQuickestGoWrong : ChangeSpec := { name := "fnExactQuickestGo", fn := fun _ => fun
  | [d] => { results := [.lit (.bool false)], args := [d] }
  | _ => none }
def FnExactQuickestGoWrongFalsely : Prop := fnExactQuickestGoRow.holds Try.pinned (OpenSpec.ofChange fnExactQuickestGoWrong)

/-- 'laws.FnExactCountEvents': WHATEVER THE INPUT: true; the input reads as it did. -/
def fnExactCountEventsSpec : ChangeSpec := { name := "fnExactCountEvents", fn := fun _ => fun
  | [d1, d2] => { results := [.lit (.bool true)], args := [d1, d2] }
  | _ => none }
def fnExactCountEventsRow : OpenClaim := { program := "ytinlcbljpclccaa", sum := "22a9975fcc98072488942c2458d297a1648baf5d1a486811966f3bb42e54acce", func := "loop.example/g00935/laws.FnExactCountEvents", spec := "fnExactCountEvents", apart := false }
def FnExactCountEventsSaid : Prop := fnExactCountEventsRow.holds Try.pinned (OpenSpec.ofChange fnExactCountEventsSpec)

/-- ITS FALSE NEIGHBOUR: 'it returns false'. Refute it at one input. -/
def fnExactCountEventsWrong : ChangeSpec := { name := "fnExactCountEvents", fn := fun _ => fun
  | [d1, d2] => { results := [.lit (.bool false)], args := [d1, d2] }
  | _ => none }
def FnExactCountEventsWrongFalsely : Prop := fnExactCountEventsRow.holds Try.pinned (OpenSpec.ofChange fnExactCountEventsWrong)

/- THE SECOND FORM. 'bulk': how many values and letters a reading holds, each counted each time it is reached (what is shared counts as often as it is met; a slice's spare places count too). A statement '..UptoSaid' is the law's where the arguments, and the package variables that the reading takes, are together of bulk at most 1048576: NARROWER than '..Said'. Prove '..Said' where nothing that the law and all that it calls make is longer than what came in: it says more and counts as full. Else prove '..UptoSaid'. A law counts once. -/
mutual
def uptoBulk {H : Type} : DataW H → Nat
  | .lit (.string bytes) => bytes.length + 1
  | .lit _ => 1
  | .nil => 1
  | .ptr d => uptoBulk d + 1
  | .slice elems spare => uptoBulkAll elems + uptoBulkAll spare + 1
  | .agg parts => uptoBulkAll parts + 1
  | .iface _ d => uptoBulk d + 1
  | .map entries => uptoBulkEntries entries + 1
  | .held _ => 1
def uptoBulkAll {H : Type} : List (DataW H) → Nat
  | [] => 0
  | d :: r => uptoBulk d + uptoBulkAll r
def uptoBulkEntries {H : Type} : List (Lit × DataW H) → Nat
  | [] => 0
  | x :: r => uptoBulkEntry x + uptoBulkEntries r
def uptoBulkEntry {H : Type} : Lit × DataW H → Nat
  | (.string bytes, d) => bytes.length + uptoBulk d + 1
  | (_, d) => uptoBulk d + 1
 end
def uptoSmall : (H : Type) → List (DataW H) → Bool := fun _ ds => decide (uptoBulkAll ds ≤ 1048576)
def OpenSpec.upto (s : _root_.Go.ChangeSpec) : _root_.Go.OpenSpec := { _root_.Go.OpenSpec.ofChange s with cond := some uptoSmall }

/-- 'laws.FnBoarding', WHERE WHAT IT READS IS OF BULK AT MOST 1048576: true; the input reads as it did. -/
def fnBoardingUptoRow : OpenClaim := { program := "ytinlcbljpclccaa", sum := "22a9975fcc98072488942c2458d297a1648baf5d1a486811966f3bb42e54acce", func := "loop.example/g00935/laws.FnBoarding", spec := "fnBoarding", apart := false, narrowed := true }
def FnBoardingUptoSaid : Prop := fnBoardingUptoRow.holds Try.pinned (OpenSpec.upto fnBoardingSpec)

/-- 'laws.FnExactIsPlatform', WHERE WHAT IT READS IS OF BULK AT MOST 1048576: true; the input reads as it did. -/
def fnExactIsPlatformUptoRow : OpenClaim := { program := "ytinlcbljpclccaa", sum := "22a9975fcc98072488942c2458d297a1648baf5d1a486811966f3bb42e54acce", func := "loop.example/g00935/laws.FnExactIsPlatform", spec := "fnExactIsPlatform", apart := false, narrowed := true }
def FnExactIsPlatformUptoSaid : Prop := fnExactIsPlatformUptoRow.holds Try.pinned (OpenSpec.upto fnExactIsPlatformSpec)

/-- 'laws.FnExactIsBoardEvent', WHERE WHAT IT READS IS OF BULK AT MOST 1048576: true; the input reads as it did. -/
def fnExactIsBoardEventUptoRow : OpenClaim := { program := "ytinlcbljpclccaa", sum := "22a9975fcc98072488942c2458d297a1648baf5d1a486811966f3bb42e54acce", func := "loop.example/g00935/laws.FnExactIsBoardEvent", spec := "fnExactIsBoardEvent", apart := false, narrowed := true }
def FnExactIsBoardEventUptoSaid : Prop := fnExactIsBoardEventUptoRow.holds Try.pinned (OpenSpec.upto fnExactIsBoardEventSpec)

/-- 'laws.FnExactStepPlatform', WHERE WHAT IT READS IS OF BULK AT MOST 1048576: true; the input reads as it did. -/
def fnExactStepPlatformUptoRow : OpenClaim := { program := "ytinlcbljpclccaa", sum := "22a9975fcc98072488942c2458d297a1648baf5d1a486811966f3bb42e54acce", func := "loop.example/g00935/laws.FnExactStepPlatform", spec := "fnExactStepPlatform", apart := false, narrowed := true }
def FnExactStepPlatformUptoSaid : Prop := fnExactStepPlatformUptoRow.holds Try.pinned (OpenSpec.upto fnExactStepPlatformSpec)

/-- 'laws.FnExactRunPlatform', WHERE WHAT IT READS IS OF BULK AT MOST 1048576: true; the input reads as it did. -/
def fnExactRunPlatformUptoRow : OpenClaim := { program := "ytinlcbljpclccaa", sum := "22a9975fcc98072488942c2458d297a1648baf5d1a486811966f3bb42e54acce", func := "loop.example/g00935/laws.FnExactRunPlatform", spec := "fnExactRunPlatform", apart := false, narrowed := true }
def FnExactRunPlatformUptoSaid : Prop := fnExactRunPlatformUptoRow.holds Try.pinned (OpenSpec.upto fnExactRunPlatformSpec)

/-- 'laws.FnExactPossibleKinds', WHERE WHAT IT READS IS OF BULK AT MOST 1048576: true; the input reads as it did. -/
def fnExactPossibleKindsUptoRow : OpenClaim := { program := "ytinlcbljpclccaa", sum := "22a9975fcc98072488942c2458d297a1648baf5d1a486811966f3bb42e54acce", func := "loop.example/g00935/laws.FnExactPossibleKinds", spec := "fnExactPossibleKinds", apart := false, narrowed := true }
def FnExactPossibleKindsUptoSaid : Prop := fnExactPossibleKindsUptoRow.holds Try.pinned (OpenSpec.upto fnExactPossibleKindsSpec)

/-- 'laws.FnExactMostEntering', WHERE WHAT IT READS IS OF BULK AT MOST 1048576: true; the input reads as it did. -/
def fnExactMostEnteringUptoRow : OpenClaim := { program := "ytinlcbljpclccaa", sum := "22a9975fcc98072488942c2458d297a1648baf5d1a486811966f3bb42e54acce", func := "loop.example/g00935/laws.FnExactMostEntering", spec := "fnExactMostEntering", apart := false, narrowed := true }
def FnExactMostEnteringUptoSaid : Prop := fnExactMostEnteringUptoRow.holds Try.pinned (OpenSpec.upto fnExactMostEnteringSpec)

/-- 'laws.FnExactQuickestGo', WHERE WHAT IT READS IS OF BULK AT MOST 1048576: true; the input reads as it did. -/
def fnExactQuickestGoUptoRow : OpenClaim := { program := "ytinlcbljpclccaa", sum := "22a9975fcc98072488942c2458d297a1648baf5d1a486811966f3bb42e54acce", func := "loop.example/g00935/laws.FnExactQuickestGo", spec := "fnExactQuickestGo", apart := false, narrowed := true }
def FnExactQuickestGoUptoSaid : Prop := fnExactQuickestGoUptoRow.holds Try.pinned (OpenSpec.upto fnExactQuickestGoSpec)

/-- 'laws.FnExactCountEvents', WHERE WHAT IT READS IS OF BULK AT MOST 1048576: true; the input reads as it did. -/
def fnExactCountEventsUptoRow : OpenClaim := { program := "ytinlcbljpclccaa", sum := "22a9975fcc98072488942c2458d297a1648baf5d1a486811966f3bb42e54acce", func := "loop.example/g00935/laws.FnExactCountEvents", spec := "fnExactCountEvents", apart := false, narrowed := true }
def FnExactCountEventsUptoSaid : Prop := fnExactCountEventsUptoRow.holds Try.pinned (OpenSpec.upto fnExactCountEventsSpec)

end Rows
end Go.Proofs.Ytinlcbljpclccaa
