/-
  No cell of these rows narrows 'for every input' (looked for: loops, veiled, ifaces, maps, wideKeys, modest, calm, conditions, laid).
  DERIVED. THE GIVEN ROWS OF THIS SEAT. 12 by the template 'for every input the law returns true; each argument reads behind the call as it read before'; 0 by the template 'total and deterministic' (their statements: YtiioabmfonhlbaaTotals.lean).
  GIVEN WITH THE SEED: the statements are not yours to turn. If you find one false, say at which input.
  Laid BY PROGRAM, IN A SANDBOX (cutbox-rows.mjs): the forced cells as the released guide's own fill.sh prints them over the translation 23b294618b7542d4… (all of the seat's roots in one cut). By AI agents, Wed Nov 11 2026. No macro, syntax, notation, axiom, sorry.
-/
import Derived.Test.YtiioabmfonhlbaaChecked
import GoSem.Claim
import GoSem.ClaimJoined
import GoSem.ClaimMapViews
import Derived.JoinedTies
import Derived.KernelRfl
namespace Go.Proofs.Ytiioabmfonhlbaa
/- THE CELL 'sum', in the pinned program and in every row, IS THE sha256 OF THE DUMP (.gsa) THAT YtiioabmfonhlbaaProg.lean LOADS. Nothing in Lean hashes anything: it is a label: what it is worth is what the hold of that sum in a sandbox is worth. -/
noncomputable def Try.pinned : Pinned := { name := "ytiioabmfonhlbaa", sum := "23b294618b7542d4217b0f231019f5ef11ca259c36273e7c90e4b95b6d40294a", checked := Try.checked }
namespace Rows
def none {H : Type} : Left H := { results := [], args := [] }

/-- 'laws.FnCircles': WHATEVER THE INPUT: true; the input reads as it did. -/
def fnCirclesSpec : ChangeSpec := { name := "fnCircles", fn := fun _ => fun
  | [d] => { results := [.lit (.bool true)], args := [d] }
  | _ => none }
def fnCirclesRow : OpenClaim := { program := "ytiioabmfonhlbaa", sum := "23b294618b7542d4217b0f231019f5ef11ca259c36273e7c90e4b95b6d40294a", func := "loop.example/g00935/laws.FnCircles", spec := "fnCircles", unfollowed := true, recurses := true, apart := false }
def FnCirclesSaid : Prop := fnCirclesRow.holds Try.pinned (OpenSpec.ofChange fnCirclesSpec)

/-- ITS FALSE NEIGHBOUR: 'it returns false'. Refute it at one input. -/
def fnCirclesWrong : ChangeSpec := { name := "fnCircles", fn := fun _ => fun
  | [d] => { results := [.lit (.bool false)], args := [d] }
  | _ => none }
def FnCirclesWrongFalsely : Prop := fnCirclesRow.holds Try.pinned (OpenSpec.ofChange fnCirclesWrong)

/-- 'laws.FnPasses': WHATEVER THE INPUT: true; the input reads as it did. -/
def fnPassesSpec : ChangeSpec := { name := "fnPasses", fn := fun _ => fun
  | [d] => { results := [.lit (.bool true)], args := [d] }
  | _ => none }
def fnPassesRow : OpenClaim := { program := "ytiioabmfonhlbaa", sum := "23b294618b7542d4217b0f231019f5ef11ca259c36273e7c90e4b95b6d40294a", func := "loop.example/g00935/laws.FnPasses", spec := "fnPasses", unfollowed := true, recurses := true, apart := false }
def FnPassesSaid : Prop := fnPassesRow.holds Try.pinned (OpenSpec.ofChange fnPassesSpec)

/-- ITS FALSE NEIGHBOUR: 'it returns false'. Refute it at one input. -/
def fnPassesWrong : ChangeSpec := { name := "fnPasses", fn := fun _ => fun
  | [d] => { results := [.lit (.bool false)], args := [d] }
  | _ => none }
def FnPassesWrongFalsely : Prop := fnPassesRow.holds Try.pinned (OpenSpec.ofChange fnPassesWrong)

/-- 'laws.FnExactIsCircle': WHATEVER THE INPUT: true; the input reads as it did. -/
def fnExactIsCircleSpec : ChangeSpec := { name := "fnExactIsCircle", fn := fun _ => fun
  | [d] => { results := [.lit (.bool true)], args := [d] }
  | _ => none }
def fnExactIsCircleRow : OpenClaim := { program := "ytiioabmfonhlbaa", sum := "23b294618b7542d4217b0f231019f5ef11ca259c36273e7c90e4b95b6d40294a", func := "loop.example/g00935/laws.FnExactIsCircle", spec := "fnExactIsCircle", unfollowed := true, recurses := true, apart := false }
def FnExactIsCircleSaid : Prop := fnExactIsCircleRow.holds Try.pinned (OpenSpec.ofChange fnExactIsCircleSpec)

/-- ITS FALSE NEIGHBOUR: 'it returns false'. Refute it at one input. -/
def fnExactIsCircleWrong : ChangeSpec := { name := "fnExactIsCircle", fn := fun _ => fun
  | [d] => { results := [.lit (.bool false)], args := [d] }
  | _ => none }
def FnExactIsCircleWrongFalsely : Prop := fnExactIsCircleRow.holds Try.pinned (OpenSpec.ofChange fnExactIsCircleWrong)

/-- 'laws.FnExactPlacesAt': WHATEVER THE INPUT: true; the input reads as it did. -/
def fnExactPlacesAtSpec : ChangeSpec := { name := "fnExactPlacesAt", fn := fun _ => fun
  | [d1, d2] => { results := [.lit (.bool true)], args := [d1, d2] }
  | _ => none }
def fnExactPlacesAtRow : OpenClaim := { program := "ytiioabmfonhlbaa", sum := "23b294618b7542d4217b0f231019f5ef11ca259c36273e7c90e4b95b6d40294a", func := "loop.example/g00935/laws.FnExactPlacesAt", spec := "fnExactPlacesAt", unfollowed := true, recurses := true, apart := false }
def FnExactPlacesAtSaid : Prop := fnExactPlacesAtRow.holds Try.pinned (OpenSpec.ofChange fnExactPlacesAtSpec)

/-- ITS FALSE NEIGHBOUR: 'it returns false'. Refute it at one input. -/
def fnExactPlacesAtWrong : ChangeSpec := { name := "fnExactPlacesAt", fn := fun _ => fun
  | [d1, d2] => { results := [.lit (.bool false)], args := [d1, d2] }
  | _ => none }
def FnExactPlacesAtWrongFalsely : Prop := fnExactPlacesAtRow.holds Try.pinned (OpenSpec.ofChange fnExactPlacesAtWrong)

/-- 'laws.FnExactGapsOf': WHATEVER THE INPUT: true; the input reads as it did. -/
def fnExactGapsOfSpec : ChangeSpec := { name := "fnExactGapsOf", fn := fun _ => fun
  | [d] => { results := [.lit (.bool true)], args := [d] }
  | _ => none }
def fnExactGapsOfRow : OpenClaim := { program := "ytiioabmfonhlbaa", sum := "23b294618b7542d4217b0f231019f5ef11ca259c36273e7c90e4b95b6d40294a", func := "loop.example/g00935/laws.FnExactGapsOf", spec := "fnExactGapsOf", unfollowed := true, recurses := true, apart := false }
def FnExactGapsOfSaid : Prop := fnExactGapsOfRow.holds Try.pinned (OpenSpec.ofChange fnExactGapsOfSpec)

/-- ITS FALSE NEIGHBOUR: 'it returns false'. Refute it at one input. -/
def fnExactGapsOfWrong : ChangeSpec := { name := "fnExactGapsOf", fn := fun _ => fun
  | [d] => { results := [.lit (.bool false)], args := [d] }
  | _ => none }
def FnExactGapsOfWrongFalsely : Prop := fnExactGapsOfRow.holds Try.pinned (OpenSpec.ofChange fnExactGapsOfWrong)

/-- 'laws.FnExactSmallestGap': WHATEVER THE INPUT: true; the input reads as it did. -/
def fnExactSmallestGapSpec : ChangeSpec := { name := "fnExactSmallestGap", fn := fun _ => fun
  | [d] => { results := [.lit (.bool true)], args := [d] }
  | _ => none }
def fnExactSmallestGapRow : OpenClaim := { program := "ytiioabmfonhlbaa", sum := "23b294618b7542d4217b0f231019f5ef11ca259c36273e7c90e4b95b6d40294a", func := "loop.example/g00935/laws.FnExactSmallestGap", spec := "fnExactSmallestGap", unfollowed := true, recurses := true, apart := false }
def FnExactSmallestGapSaid : Prop := fnExactSmallestGapRow.holds Try.pinned (OpenSpec.ofChange fnExactSmallestGapSpec)

/-- ITS FALSE NEIGHBOUR: 'it returns false'. Refute it at one input. -/
def fnExactSmallestGapWrong : ChangeSpec := { name := "fnExactSmallestGap", fn := fun _ => fun
  | [d] => { results := [.lit (.bool false)], args := [d] }
  | _ => none }
def FnExactSmallestGapWrongFalsely : Prop := fnExactSmallestGapRow.holds Try.pinned (OpenSpec.ofChange fnExactSmallestGapWrong)

/-- 'laws.FnExactPassesBy': WHATEVER THE INPUT: true; the input reads as it did. -/
def fnExactPassesBySpec : ChangeSpec := { name := "fnExactPassesBy", fn := fun _ => fun
  | [d1, d2, d3] => { results := [.lit (.bool true)], args := [d1, d2, d3] }
  | _ => none }
def fnExactPassesByRow : OpenClaim := { program := "ytiioabmfonhlbaa", sum := "23b294618b7542d4217b0f231019f5ef11ca259c36273e7c90e4b95b6d40294a", func := "loop.example/g00935/laws.FnExactPassesBy", spec := "fnExactPassesBy", unfollowed := true, recurses := true, apart := false }
def FnExactPassesBySaid : Prop := fnExactPassesByRow.holds Try.pinned (OpenSpec.ofChange fnExactPassesBySpec)

/-- ITS FALSE NEIGHBOUR: 'it returns false'. Refute it at one input. -/
def fnExactPassesByWrong : ChangeSpec := { name := "fnExactPassesBy", fn := fun _ => fun
  | [d1, d2, d3] => { results := [.lit (.bool false)], args := [d1, d2, d3] }
  | _ => none }
def FnExactPassesByWrongFalsely : Prop := fnExactPassesByRow.holds Try.pinned (OpenSpec.ofChange fnExactPassesByWrong)

/-- 'laws.FnExactNextPass': WHATEVER THE INPUT: true; the input reads as it did. -/
def fnExactNextPassSpec : ChangeSpec := { name := "fnExactNextPass", fn := fun _ => fun
  | [d1, d2, d3] => { results := [.lit (.bool true)], args := [d1, d2, d3] }
  | _ => none }
def fnExactNextPassRow : OpenClaim := { program := "ytiioabmfonhlbaa", sum := "23b294618b7542d4217b0f231019f5ef11ca259c36273e7c90e4b95b6d40294a", func := "loop.example/g00935/laws.FnExactNextPass", spec := "fnExactNextPass", unfollowed := true, recurses := true, apart := false }
def FnExactNextPassSaid : Prop := fnExactNextPassRow.holds Try.pinned (OpenSpec.ofChange fnExactNextPassSpec)

/-- ITS FALSE NEIGHBOUR: 'it returns false'. Refute it at one input. -/
def fnExactNextPassWrong : ChangeSpec := { name := "fnExactNextPass", fn := fun _ => fun
  | [d1, d2, d3] => { results := [.lit (.bool false)], args := [d1, d2, d3] }
  | _ => none }
def FnExactNextPassWrongFalsely : Prop := fnExactNextPassRow.holds Try.pinned (OpenSpec.ofChange fnExactNextPassWrong)

/-- 'laws.FnExactRoundTime': WHATEVER THE INPUT: true; the input reads as it did. -/
def fnExactRoundTimeSpec : ChangeSpec := { name := "fnExactRoundTime", fn := fun _ => fun
  | [d] => { results := [.lit (.bool true)], args := [d] }
  | _ => none }
def fnExactRoundTimeRow : OpenClaim := { program := "ytiioabmfonhlbaa", sum := "23b294618b7542d4217b0f231019f5ef11ca259c36273e7c90e4b95b6d40294a", func := "loop.example/g00935/laws.FnExactRoundTime", spec := "fnExactRoundTime", unfollowed := true, recurses := true, apart := false }
def FnExactRoundTimeSaid : Prop := fnExactRoundTimeRow.holds Try.pinned (OpenSpec.ofChange fnExactRoundTimeSpec)

/-- ITS FALSE NEIGHBOUR: 'it returns false'. Refute it at one input. -/
def fnExactRoundTimeWrong : ChangeSpec := { name := "fnExactRoundTime", fn := fun _ => fun
  | [d] => { results := [.lit (.bool false)], args := [d] }
  | _ => none }
def FnExactRoundTimeWrongFalsely : Prop := fnExactRoundTimeRow.holds Try.pinned (OpenSpec.ofChange fnExactRoundTimeWrong)

/-- 'laws.FnExactAddCabin': WHATEVER THE INPUT: true; the input reads as it did. -/
def fnExactAddCabinSpec : ChangeSpec := { name := "fnExactAddCabin", fn := fun _ => fun
  | [d1, d2] => { results := [.lit (.bool true)], args := [d1, d2] }
  | _ => none }
def fnExactAddCabinRow : OpenClaim := { program := "ytiioabmfonhlbaa", sum := "23b294618b7542d4217b0f231019f5ef11ca259c36273e7c90e4b95b6d40294a", func := "loop.example/g00935/laws.FnExactAddCabin", spec := "fnExactAddCabin", unfollowed := true, recurses := true, apart := false }
def FnExactAddCabinSaid : Prop := fnExactAddCabinRow.holds Try.pinned (OpenSpec.ofChange fnExactAddCabinSpec)

/-- ITS FALSE NEIGHBOUR: 'it returns false'. Refute it at one input. -/
def fnExactAddCabinWrong : ChangeSpec := { name := "fnExactAddCabin", fn := fun _ => fun
  | [d1, d2] => { results := [.lit (.bool false)], args := [d1, d2] }
  | _ => none }
def FnExactAddCabinWrongFalsely : Prop := fnExactAddCabinRow.holds Try.pinned (OpenSpec.ofChange fnExactAddCabinWrong)

/-- 'laws.FnExactRemoveCabin': WHATEVER THE INPUT: true; the input reads as it did. -/
def fnExactRemoveCabinSpec : ChangeSpec := { name := "fnExactRemoveCabin", fn := fun _ => fun
  | [d1, d2] => { results := [.lit (.bool true)], args := [d1, d2] }
  | _ => none }
def fnExactRemoveCabinRow : OpenClaim := { program := "ytiioabmfonhlbaa", sum := "23b294618b7542d4217b0f231019f5ef11ca259c36273e7c90e4b95b6d40294a", func := "loop.example/g00935/laws.FnExactRemoveCabin", spec := "fnExactRemoveCabin", unfollowed := true, recurses := true, apart := false }
def FnExactRemoveCabinSaid : Prop := fnExactRemoveCabinRow.holds Try.pinned (OpenSpec.ofChange fnExactRemoveCabinSpec)

/-- ITS FALSE NEIGHBOUR: 'it returns false'. Refute it at one input. -/
def fnExactRemoveCabinWrong : ChangeSpec := { name := "fnExactRemoveCabin", fn := fun _ => fun
  | [d1, d2] => { results := [.lit (.bool false)], args := [d1, d2] }
  | _ => none }
def FnExactRemoveCabinWrongFalsely : Prop := fnExactRemoveCabinRow.holds Try.pinned (OpenSpec.ofChange fnExactRemoveCabinWrong)

/-- 'laws.FnExactEvenStarts': WHATEVER THE INPUT: true; the input reads as it did. -/
def fnExactEvenStartsSpec : ChangeSpec := { name := "fnExactEvenStarts", fn := fun _ => fun
  | [d1, d2, d3] => { results := [.lit (.bool true)], args := [d1, d2, d3] }
  | _ => none }
def fnExactEvenStartsRow : OpenClaim := { program := "ytiioabmfonhlbaa", sum := "23b294618b7542d4217b0f231019f5ef11ca259c36273e7c90e4b95b6d40294a", func := "loop.example/g00935/laws.FnExactEvenStarts", spec := "fnExactEvenStarts", unfollowed := true, recurses := true, apart := false }
def FnExactEvenStartsSaid : Prop := fnExactEvenStartsRow.holds Try.pinned (OpenSpec.ofChange fnExactEvenStartsSpec)

/-- ITS FALSE NEIGHBOUR: 'it returns false'. Refute it at one input. -/
def fnExactEvenStartsWrong : ChangeSpec := { name := "fnExactEvenStarts", fn := fun _ => fun
  | [d1, d2, d3] => { results := [.lit (.bool false)], args := [d1, d2, d3] }
  | _ => none }
def FnExactEvenStartsWrongFalsely : Prop := fnExactEvenStartsRow.holds Try.pinned (OpenSpec.ofChange fnExactEvenStartsWrong)

/- THE SECOND FORM. 'bulk': how many values and letters a reading holds, each counted each time it is reached (what is shared counts as often as it is met; a slice's spare places count too). A statement '..UptoSaid' is the law's where the arguments, and the package variables that the reading takes, are together of bulk at most 1048576: NARROWER than '..Said'. Prove '..Said' where nothing that the law and all that it calls make is longer than what came in: it says more and counts as full. Else prove '..UptoSaid'. A law counts once. -/
mutual
def uptoBulk {H : Type} : DataW H → Nat
  | .lit (.string bytes) => bytes.length + 1
  | .lit _ => 1
  | .nil => 1
  | .ptr d => uptoBulk d + 1
  | .slice elems spare => uptoBulkAll elems + uptoBulkAll spare + 1
  | .agg parts => uptoBulkAll parts + 1
  | .iface _ d => uptoBulk d + 1
  | .map entries => uptoBulkEntries entries + 1
  | .held _ => 1
def uptoBulkAll {H : Type} : List (DataW H) → Nat
  | [] => 0
  | d :: r => uptoBulk d + uptoBulkAll r
def uptoBulkEntries {H : Type} : List (Lit × DataW H) → Nat
  | [] => 0
  | x :: r => uptoBulkEntry x + uptoBulkEntries r
def uptoBulkEntry {H : Type} : Lit × DataW H → Nat
  | (.string bytes, d) => bytes.length + uptoBulk d + 1
  | (_, d) => uptoBulk d + 1
 end
def uptoSmall : (H : Type) → List (DataW H) → Bool := fun _ ds => decide (uptoBulkAll ds ≤ 1048576)
def OpenSpec.upto (s : _root_.Go.ChangeSpec) : _root_.Go.OpenSpec := { _root_.Go.OpenSpec.ofChange s with cond := some uptoSmall }

/-- 'laws.FnCircles', WHERE WHAT IT READS IS OF BULK AT MOST 1048576: true; the input reads as it did. -/
def fnCirclesUptoRow : OpenClaim := { program := "ytiioabmfonhlbaa", sum := "23b294618b7542d4217b0f231019f5ef11ca259c36273e7c90e4b95b6d40294a", func := "loop.example/g00935/laws.FnCircles", spec := "fnCircles", unfollowed := true, recurses := true, apart := false, narrowed := true }
def FnCirclesUptoSaid : Prop := fnCirclesUptoRow.holds Try.pinned (OpenSpec.upto fnCirclesSpec)

/-- 'laws.FnPasses', WHERE WHAT IT READS IS OF BULK AT MOST 1048576: true; the input reads as it did. -/
def fnPassesUptoRow : OpenClaim := { program := "ytiioabmfonhlbaa", sum := "23b294618b7542d4217b0f231019f5ef11ca259c36273e7c90e4b95b6d40294a", func := "loop.example/g00935/laws.FnPasses", spec := "fnPasses", unfollowed := true, recurses := true, apart := false, narrowed := true }
def FnPassesUptoSaid : Prop := fnPassesUptoRow.holds Try.pinned (OpenSpec.upto fnPassesSpec)

/-- 'laws.FnExactIsCircle', WHERE WHAT IT READS IS OF BULK AT MOST 1048576: true; the input reads as it did. -/
def fnExactIsCircleUptoRow : OpenClaim := { program := "ytiioabmfonhlbaa", sum := "23b294618b7542d4217b0f231019f5ef11ca259c36273e7c90e4b95b6d40294a", func := "loop.example/g00935/laws.FnExactIsCircle", spec := "fnExactIsCircle", unfollowed := true, recurses := true, apart := false, narrowed := true }
def FnExactIsCircleUptoSaid : Prop := fnExactIsCircleUptoRow.holds Try.pinned (OpenSpec.upto fnExactIsCircleSpec)

/-- 'laws.FnExactPlacesAt', WHERE WHAT IT READS IS OF BULK AT MOST 1048576: true; the input reads as it did. -/
def fnExactPlacesAtUptoRow : OpenClaim := { program := "ytiioabmfonhlbaa", sum := "23b294618b7542d4217b0f231019f5ef11ca259c36273e7c90e4b95b6d40294a", func := "loop.example/g00935/laws.FnExactPlacesAt", spec := "fnExactPlacesAt", unfollowed := true, recurses := true, apart := false, narrowed := true }
def FnExactPlacesAtUptoSaid : Prop := fnExactPlacesAtUptoRow.holds Try.pinned (OpenSpec.upto fnExactPlacesAtSpec)

/-- 'laws.FnExactGapsOf', WHERE WHAT IT READS IS OF BULK AT MOST 1048576: true; the input reads as it did. -/
def fnExactGapsOfUptoRow : OpenClaim := { program := "ytiioabmfonhlbaa", sum := "23b294618b7542d4217b0f231019f5ef11ca259c36273e7c90e4b95b6d40294a", func := "loop.example/g00935/laws.FnExactGapsOf", spec := "fnExactGapsOf", unfollowed := true, recurses := true, apart := false, narrowed := true }
def FnExactGapsOfUptoSaid : Prop := fnExactGapsOfUptoRow.holds Try.pinned (OpenSpec.upto fnExactGapsOfSpec)

/-- 'laws.FnExactSmallestGap', WHERE WHAT IT READS IS OF BULK AT MOST 1048576: true; the input reads as it did. -/
def fnExactSmallestGapUptoRow : OpenClaim := { program := "ytiioabmfonhlbaa", sum := "23b294618b7542d4217b0f231019f5ef11ca259c36273e7c90e4b95b6d40294a", func := "loop.example/g00935/laws.FnExactSmallestGap", spec := "fnExactSmallestGap", unfollowed := true, recurses := true, apart := false, narrowed := true }
def FnExactSmallestGapUptoSaid : Prop := fnExactSmallestGapUptoRow.holds Try.pinned (OpenSpec.upto fnExactSmallestGapSpec)

/-- 'laws.FnExactPassesBy', WHERE WHAT IT READS IS OF BULK AT MOST 1048576: true; the input reads as it did. -/
def fnExactPassesByUptoRow : OpenClaim := { program := "ytiioabmfonhlbaa", sum := "23b294618b7542d4217b0f231019f5ef11ca259c36273e7c90e4b95b6d40294a", func := "loop.example/g00935/laws.FnExactPassesBy", spec := "fnExactPassesBy", unfollowed := true, recurses := true, apart := false, narrowed := true }
def FnExactPassesByUptoSaid : Prop := fnExactPassesByUptoRow.holds Try.pinned (OpenSpec.upto fnExactPassesBySpec)

/-- 'laws.FnExactNextPass', WHERE WHAT IT READS IS OF BULK AT MOST 1048576: true; the input reads as it did. -/
def fnExactNextPassUptoRow : OpenClaim := { program := "ytiioabmfonhlbaa", sum := "23b294618b7542d4217b0f231019f5ef11ca259c36273e7c90e4b95b6d40294a", func := "loop.example/g00935/laws.FnExactNextPass", spec := "fnExactNextPass", unfollowed := true, recurses := true, apart := false, narrowed := true }
def FnExactNextPassUptoSaid : Prop := fnExactNextPassUptoRow.holds Try.pinned (OpenSpec.upto fnExactNextPassSpec)

/-- 'laws.FnExactRoundTime', WHERE WHAT IT READS IS OF BULK AT MOST 1048576: true; the input reads as it did. -/
def fnExactRoundTimeUptoRow : OpenClaim := { program := "ytiioabmfonhlbaa", sum := "23b294618b7542d4217b0f231019f5ef11ca259c36273e7c90e4b95b6d40294a", func := "loop.example/g00935/laws.FnExactRoundTime", spec := "fnExactRoundTime", unfollowed := true, recurses := true, apart := false, narrowed := true }
def FnExactRoundTimeUptoSaid : Prop := fnExactRoundTimeUptoRow.holds Try.pinned (OpenSpec.upto fnExactRoundTimeSpec)

/-- 'laws.FnExactAddCabin', WHERE WHAT IT READS IS OF BULK AT MOST 1048576: true; the input reads as it did. -/
def fnExactAddCabinUptoRow : OpenClaim := { program := "ytiioabmfonhlbaa", sum := "23b294618b7542d4217b0f231019f5ef11ca259c36273e7c90e4b95b6d40294a", func := "loop.example/g00935/laws.FnExactAddCabin", spec := "fnExactAddCabin", unfollowed := true, recurses := true, apart := false, narrowed := true }
def FnExactAddCabinUptoSaid : Prop := fnExactAddCabinUptoRow.holds Try.pinned (OpenSpec.upto fnExactAddCabinSpec)

/-- 'laws.FnExactRemoveCabin', WHERE WHAT IT READS IS OF BULK AT MOST 1048576: true; the input reads as it did. -/
def fnExactRemoveCabinUptoRow : OpenClaim := { program := "ytiioabmfonhlbaa", sum := "23b294618b7542d4217b0f231019f5ef11ca259c36273e7c90e4b95b6d40294a", func := "loop.example/g00935/laws.FnExactRemoveCabin", spec := "fnExactRemoveCabin", unfollowed := true, recurses := true, apart := false, narrowed := true }
def FnExactRemoveCabinUptoSaid : Prop := fnExactRemoveCabinUptoRow.holds Try.pinned (OpenSpec.upto fnExactRemoveCabinSpec)

/-- 'laws.FnExactEvenStarts', WHERE WHAT IT READS IS OF BULK AT MOST 1048576: true; the input reads as it did. -/
def fnExactEvenStartsUptoRow : OpenClaim := { program := "ytiioabmfonhlbaa", sum := "23b294618b7542d4217b0f231019f5ef11ca259c36273e7c90e4b95b6d40294a", func := "loop.example/g00935/laws.FnExactEvenStarts", spec := "fnExactEvenStarts", unfollowed := true, recurses := true, apart := false, narrowed := true }
def FnExactEvenStartsUptoSaid : Prop := fnExactEvenStartsUptoRow.holds Try.pinned (OpenSpec.upto fnExactEvenStartsSpec)

end Rows
end Go.Proofs.Ytiioabmfonhlbaa
