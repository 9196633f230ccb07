/-
  No cell of these rows narrows 'for every input' (looked for: loops, veiled, ifaces, maps, wideKeys, modest, calm, conditions, laid).
  DERIVED. THE GIVEN ROWS OF THIS SEAT. 9 by the template 'for every input the law returns true; each argument reads behind the call as it read before'; 0 by the template 'total and deterministic' (their statements: YtiogjocbiagipabTotals.lean).
  GIVEN WITH THE SEED: the statements are not yours to turn. If you find one false, say at which input.
  Laid BY PROGRAM, IN A SANDBOX (cutbox-rows.mjs): the forced cells as the released guide's own fill.sh prints them over the translation 4f4ce5e803c4b494… (all of the seat's roots in one cut). By AI agents, Wed Nov 11 2026. No macro, syntax, notation, axiom, sorry.
-/
import Derived.Test.YtiogjocbiagipabChecked
import GoSem.Claim
import GoSem.ClaimJoined
import GoSem.ClaimMapViews
import Derived.JoinedTies
import Derived.KernelRfl
namespace Go.Proofs.Ytiogjocbiagipab
/- THE CELL 'sum', in the pinned program and in every row, IS THE sha256 OF THE DUMP (.gsa) THAT YtiogjocbiagipabProg.lean LOADS. Nothing in Lean hashes anything: it is a label: what it is worth is what the hold of that sum in a sandbox is worth. -/
noncomputable def Try.pinned : Pinned := { name := "ytiogjocbiagipab", sum := "4f4ce5e803c4b49497628f952978ed8f49d2e5cb8cf56dabd55580c9f200a838", checked := Try.checked }
namespace Rows
def none {H : Type} : Left H := { results := [], args := [] }

/-- 'laws.FnRopes': WHATEVER THE INPUT: true; the input reads as it did. -/
def fnRopesSpec : ChangeSpec := { name := "fnRopes", fn := fun _ => fun
  | [d] => { results := [.lit (.bool true)], args := [d] }
  | _ => none }
def fnRopesRow : OpenClaim := { program := "ytiogjocbiagipab", sum := "4f4ce5e803c4b49497628f952978ed8f49d2e5cb8cf56dabd55580c9f200a838", func := "loop.example/g00935/laws.FnRopes", spec := "fnRopes", unfollowed := true, recurses := true, apart := false }
def FnRopesSaid : Prop := fnRopesRow.holds Try.pinned (OpenSpec.ofChange fnRopesSpec)

/-- ITS FALSE NEIGHBOUR: 'it returns false'. Refute it at one input. -/
def fnRopesWrong : ChangeSpec := { name := "fnRopes", fn := fun _ => fun
  | [d] => { results := [.lit (.bool false)], args := [d] }
  | _ => none }
def FnRopesWrongFalsely : Prop := fnRopesRow.holds Try.pinned (OpenSpec.ofChange fnRopesWrong)

/-- 'laws.FnExactAreRopeKinds': WHATEVER THE INPUT: true; the input reads as it did. -/
def fnExactAreRopeKindsSpec : ChangeSpec := { name := "fnExactAreRopeKinds", fn := fun _ => fun
  | [d] => { results := [.lit (.bool true)], args := [d] }
  | _ => none }
def fnExactAreRopeKindsRow : OpenClaim := { program := "ytiogjocbiagipab", sum := "4f4ce5e803c4b49497628f952978ed8f49d2e5cb8cf56dabd55580c9f200a838", func := "loop.example/g00935/laws.FnExactAreRopeKinds", spec := "fnExactAreRopeKinds", unfollowed := true, recurses := true, apart := false }
def FnExactAreRopeKindsSaid : Prop := fnExactAreRopeKindsRow.holds Try.pinned (OpenSpec.ofChange fnExactAreRopeKindsSpec)

/-- ITS FALSE NEIGHBOUR: 'it returns false'. Refute it at one input. -/
def fnExactAreRopeKindsWrong : ChangeSpec := { name := "fnExactAreRopeKinds", fn := fun _ => fun
  | [d] => { results := [.lit (.bool false)], args := [d] }
  | _ => none }
def FnExactAreRopeKindsWrongFalsely : Prop := fnExactAreRopeKindsRow.holds Try.pinned (OpenSpec.ofChange fnExactAreRopeKindsWrong)

/-- 'laws.FnExactLightestKind': WHATEVER THE INPUT: true; the input reads as it did. -/
def fnExactLightestKindSpec : ChangeSpec := { name := "fnExactLightestKind", fn := fun _ => fun
  | [d1, d2] => { results := [.lit (.bool true)], args := [d1, d2] }
  | _ => none }
def fnExactLightestKindRow : OpenClaim := { program := "ytiogjocbiagipab", sum := "4f4ce5e803c4b49497628f952978ed8f49d2e5cb8cf56dabd55580c9f200a838", func := "loop.example/g00935/laws.FnExactLightestKind", spec := "fnExactLightestKind", unfollowed := true, recurses := true, apart := false }
def FnExactLightestKindSaid : Prop := fnExactLightestKindRow.holds Try.pinned (OpenSpec.ofChange fnExactLightestKindSpec)

/-- ITS FALSE NEIGHBOUR: 'it returns false'. Refute it at one input. -/
def fnExactLightestKindWrong : ChangeSpec := { name := "fnExactLightestKind", fn := fun _ => fun
  | [d1, d2] => { results := [.lit (.bool false)], args := [d1, d2] }
  | _ => none }
def FnExactLightestKindWrongFalsely : Prop := fnExactLightestKindRow.holds Try.pinned (OpenSpec.ofChange fnExactLightestKindWrong)

/-- 'laws.FnExactAreCabins': WHATEVER THE INPUT: true; the input reads as it did. -/
def fnExactAreCabinsSpec : ChangeSpec := { name := "fnExactAreCabins", fn := fun _ => fun
  | [d] => { results := [.lit (.bool true)], args := [d] }
  | _ => none }
def fnExactAreCabinsRow : OpenClaim := { program := "ytiogjocbiagipab", sum := "4f4ce5e803c4b49497628f952978ed8f49d2e5cb8cf56dabd55580c9f200a838", func := "loop.example/g00935/laws.FnExactAreCabins", spec := "fnExactAreCabins", unfollowed := true, recurses := true, apart := false }
def FnExactAreCabinsSaid : Prop := fnExactAreCabinsRow.holds Try.pinned (OpenSpec.ofChange fnExactAreCabinsSpec)

/-- ITS FALSE NEIGHBOUR: 'it returns false'. Refute it at one input. -/
def fnExactAreCabinsWrong : ChangeSpec := { name := "fnExactAreCabins", fn := fun _ => fun
  | [d] => { results := [.lit (.bool false)], args := [d] }
  | _ => none }
def FnExactAreCabinsWrongFalsely : Prop := fnExactAreCabinsRow.holds Try.pinned (OpenSpec.ofChange fnExactAreCabinsWrong)

/-- 'laws.FnExactCabinsIn': WHATEVER THE INPUT: true; the input reads as it did. -/
def fnExactCabinsInSpec : ChangeSpec := { name := "fnExactCabinsIn", fn := fun _ => fun
  | [d1, d2] => { results := [.lit (.bool true)], args := [d1, d2] }
  | _ => none }
def fnExactCabinsInRow : OpenClaim := { program := "ytiogjocbiagipab", sum := "4f4ce5e803c4b49497628f952978ed8f49d2e5cb8cf56dabd55580c9f200a838", func := "loop.example/g00935/laws.FnExactCabinsIn", spec := "fnExactCabinsIn", unfollowed := true, recurses := true, apart := false }
def FnExactCabinsInSaid : Prop := fnExactCabinsInRow.holds Try.pinned (OpenSpec.ofChange fnExactCabinsInSpec)

/-- ITS FALSE NEIGHBOUR: 'it returns false'. Refute it at one input. -/
def fnExactCabinsInWrong : ChangeSpec := { name := "fnExactCabinsIn", fn := fun _ => fun
  | [d1, d2] => { results := [.lit (.bool false)], args := [d1, d2] }
  | _ => none }
def FnExactCabinsInWrongFalsely : Prop := fnExactCabinsInRow.holds Try.pinned (OpenSpec.ofChange fnExactCabinsInWrong)

/-- 'laws.FnExactSeatsOnLine': WHATEVER THE INPUT: true; the input reads as it did. -/
def fnExactSeatsOnLineSpec : ChangeSpec := { name := "fnExactSeatsOnLine", fn := fun _ => fun
  | [d] => { results := [.lit (.bool true)], args := [d] }
  | _ => none }
def fnExactSeatsOnLineRow : OpenClaim := { program := "ytiogjocbiagipab", sum := "4f4ce5e803c4b49497628f952978ed8f49d2e5cb8cf56dabd55580c9f200a838", func := "loop.example/g00935/laws.FnExactSeatsOnLine", spec := "fnExactSeatsOnLine", unfollowed := true, recurses := true, apart := false }
def FnExactSeatsOnLineSaid : Prop := fnExactSeatsOnLineRow.holds Try.pinned (OpenSpec.ofChange fnExactSeatsOnLineSpec)

/-- ITS FALSE NEIGHBOUR: 'it returns false'. Refute it at one input. -/
def fnExactSeatsOnLineWrong : ChangeSpec := { name := "fnExactSeatsOnLine", fn := fun _ => fun
  | [d] => { results := [.lit (.bool false)], args := [d] }
  | _ => none }
def FnExactSeatsOnLineWrongFalsely : Prop := fnExactSeatsOnLineRow.holds Try.pinned (OpenSpec.ofChange fnExactSeatsOnLineWrong)

/-- 'laws.FnExactNextOut': WHATEVER THE INPUT: true; the input reads as it did. -/
def fnExactNextOutSpec : ChangeSpec := { name := "fnExactNextOut", fn := fun _ => fun
  | [d1, d2] => { results := [.lit (.bool true)], args := [d1, d2] }
  | _ => none }
def fnExactNextOutRow : OpenClaim := { program := "ytiogjocbiagipab", sum := "4f4ce5e803c4b49497628f952978ed8f49d2e5cb8cf56dabd55580c9f200a838", func := "loop.example/g00935/laws.FnExactNextOut", spec := "fnExactNextOut", unfollowed := true, recurses := true, apart := false }
def FnExactNextOutSaid : Prop := fnExactNextOutRow.holds Try.pinned (OpenSpec.ofChange fnExactNextOutSpec)

/-- ITS FALSE NEIGHBOUR: 'it returns false'. Refute it at one input. -/
def fnExactNextOutWrong : ChangeSpec := { name := "fnExactNextOut", fn := fun _ => fun
  | [d1, d2] => { results := [.lit (.bool false)], args := [d1, d2] }
  | _ => none }
def FnExactNextOutWrongFalsely : Prop := fnExactNextOutRow.holds Try.pinned (OpenSpec.ofChange fnExactNextOutWrong)

/-- 'laws.FnExactFewestCabins': WHATEVER THE INPUT: true; the input reads as it did. -/
def fnExactFewestCabinsSpec : ChangeSpec := { name := "fnExactFewestCabins", fn := fun _ => fun
  | [d1, d2] => { results := [.lit (.bool true)], args := [d1, d2] }
  | _ => none }
def fnExactFewestCabinsRow : OpenClaim := { program := "ytiogjocbiagipab", sum := "4f4ce5e803c4b49497628f952978ed8f49d2e5cb8cf56dabd55580c9f200a838", func := "loop.example/g00935/laws.FnExactFewestCabins", spec := "fnExactFewestCabins", unfollowed := true, recurses := true, apart := false }
def FnExactFewestCabinsSaid : Prop := fnExactFewestCabinsRow.holds Try.pinned (OpenSpec.ofChange fnExactFewestCabinsSpec)

/-- ITS FALSE NEIGHBOUR: 'it returns false'. Refute it at one input. -/
def fnExactFewestCabinsWrong : ChangeSpec := { name := "fnExactFewestCabins", fn := fun _ => fun
  | [d1, d2] => { results := [.lit (.bool false)], args := [d1, d2] }
  | _ => none }
def FnExactFewestCabinsWrongFalsely : Prop := fnExactFewestCabinsRow.holds Try.pinned (OpenSpec.ofChange fnExactFewestCabinsWrong)

/-- 'laws.FnExactWornCabins': WHATEVER THE INPUT: true; the input reads as it did. -/
def fnExactWornCabinsSpec : ChangeSpec := { name := "fnExactWornCabins", fn := fun _ => fun
  | [d1, d2] => { results := [.lit (.bool true)], args := [d1, d2] }
  | _ => none }
def fnExactWornCabinsRow : OpenClaim := { program := "ytiogjocbiagipab", sum := "4f4ce5e803c4b49497628f952978ed8f49d2e5cb8cf56dabd55580c9f200a838", func := "loop.example/g00935/laws.FnExactWornCabins", spec := "fnExactWornCabins", unfollowed := true, recurses := true, apart := false }
def FnExactWornCabinsSaid : Prop := fnExactWornCabinsRow.holds Try.pinned (OpenSpec.ofChange fnExactWornCabinsSpec)

/-- ITS FALSE NEIGHBOUR: 'it returns false'. Refute it at one input. -/
def fnExactWornCabinsWrong : ChangeSpec := { name := "fnExactWornCabins", fn := fun _ => fun
  | [d1, d2] => { results := [.lit (.bool false)], args := [d1, d2] }
  | _ => none }
def FnExactWornCabinsWrongFalsely : Prop := fnExactWornCabinsRow.holds Try.pinned (OpenSpec.ofChange fnExactWornCabinsWrong)

/- THE SECOND FORM. 'bulk': how many values and letters a reading holds, each counted each time it is reached (what is shared counts as often as it is met; a slice's spare places count too). A statement '..UptoSaid' is the law's where the arguments, and the package variables that the reading takes, are together of bulk at most 1048576: NARROWER than '..Said'. Prove '..Said' where nothing that the law and all that it calls make is longer than what came in: it says more and counts as full. Else prove '..UptoSaid'. A law counts once. -/
mutual
def uptoBulk {H : Type} : DataW H → Nat
  | .lit (.string bytes) => bytes.length + 1
  | .lit _ => 1
  | .nil => 1
  | .ptr d => uptoBulk d + 1
  | .slice elems spare => uptoBulkAll elems + uptoBulkAll spare + 1
  | .agg parts => uptoBulkAll parts + 1
  | .iface _ d => uptoBulk d + 1
  | .map entries => uptoBulkEntries entries + 1
  | .held _ => 1
def uptoBulkAll {H : Type} : List (DataW H) → Nat
  | [] => 0
  | d :: r => uptoBulk d + uptoBulkAll r
def uptoBulkEntries {H : Type} : List (Lit × DataW H) → Nat
  | [] => 0
  | x :: r => uptoBulkEntry x + uptoBulkEntries r
def uptoBulkEntry {H : Type} : Lit × DataW H → Nat
  | (.string bytes, d) => bytes.length + uptoBulk d + 1
  | (_, d) => uptoBulk d + 1
 end
def uptoSmall : (H : Type) → List (DataW H) → Bool := fun _ ds => decide (uptoBulkAll ds ≤ 1048576)
def OpenSpec.upto (s : _root_.Go.ChangeSpec) : _root_.Go.OpenSpec := { _root_.Go.OpenSpec.ofChange s with cond := some uptoSmall }

/-- 'laws.FnRopes', WHERE WHAT IT READS IS OF BULK AT MOST 1048576: true; the input reads as it did. -/
def fnRopesUptoRow : OpenClaim := { program := "ytiogjocbiagipab", sum := "4f4ce5e803c4b49497628f952978ed8f49d2e5cb8cf56dabd55580c9f200a838", func := "loop.example/g00935/laws.FnRopes", spec := "fnRopes", unfollowed := true, recurses := true, apart := false, narrowed := true }
def FnRopesUptoSaid : Prop := fnRopesUptoRow.holds Try.pinned (OpenSpec.upto fnRopesSpec)

/-- 'laws.FnExactAreRopeKinds', WHERE WHAT IT READS IS OF BULK AT MOST 1048576: true; the input reads as it did. -/
def fnExactAreRopeKindsUptoRow : OpenClaim := { program := "ytiogjocbiagipab", sum := "4f4ce5e803c4b49497628f952978ed8f49d2e5cb8cf56dabd55580c9f200a838", func := "loop.example/g00935/laws.FnExactAreRopeKinds", spec := "fnExactAreRopeKinds", unfollowed := true, recurses := true, apart := false, narrowed := true }
def FnExactAreRopeKindsUptoSaid : Prop := fnExactAreRopeKindsUptoRow.holds Try.pinned (OpenSpec.upto fnExactAreRopeKindsSpec)

/-- 'laws.FnExactLightestKind', WHERE WHAT IT READS IS OF BULK AT MOST 1048576: true; the input reads as it did. -/
def fnExactLightestKindUptoRow : OpenClaim := { program := "ytiogjocbiagipab", sum := "4f4ce5e803c4b49497628f952978ed8f49d2e5cb8cf56dabd55580c9f200a838", func := "loop.example/g00935/laws.FnExactLightestKind", spec := "fnExactLightestKind", unfollowed := true, recurses := true, apart := false, narrowed := true }
def FnExactLightestKindUptoSaid : Prop := fnExactLightestKindUptoRow.holds Try.pinned (OpenSpec.upto fnExactLightestKindSpec)

/-- 'laws.FnExactAreCabins', WHERE WHAT IT READS IS OF BULK AT MOST 1048576: true; the input reads as it did. -/
def fnExactAreCabinsUptoRow : OpenClaim := { program := "ytiogjocbiagipab", sum := "4f4ce5e803c4b49497628f952978ed8f49d2e5cb8cf56dabd55580c9f200a838", func := "loop.example/g00935/laws.FnExactAreCabins", spec := "fnExactAreCabins", unfollowed := true, recurses := true, apart := false, narrowed := true }
def FnExactAreCabinsUptoSaid : Prop := fnExactAreCabinsUptoRow.holds Try.pinned (OpenSpec.upto fnExactAreCabinsSpec)

/-- 'laws.FnExactCabinsIn', WHERE WHAT IT READS IS OF BULK AT MOST 1048576: true; the input reads as it did. -/
def fnExactCabinsInUptoRow : OpenClaim := { program := "ytiogjocbiagipab", sum := "4f4ce5e803c4b49497628f952978ed8f49d2e5cb8cf56dabd55580c9f200a838", func := "loop.example/g00935/laws.FnExactCabinsIn", spec := "fnExactCabinsIn", unfollowed := true, recurses := true, apart := false, narrowed := true }
def FnExactCabinsInUptoSaid : Prop := fnExactCabinsInUptoRow.holds Try.pinned (OpenSpec.upto fnExactCabinsInSpec)

/-- 'laws.FnExactSeatsOnLine', WHERE WHAT IT READS IS OF BULK AT MOST 1048576: true; the input reads as it did. -/
def fnExactSeatsOnLineUptoRow : OpenClaim := { program := "ytiogjocbiagipab", sum := "4f4ce5e803c4b49497628f952978ed8f49d2e5cb8cf56dabd55580c9f200a838", func := "loop.example/g00935/laws.FnExactSeatsOnLine", spec := "fnExactSeatsOnLine", unfollowed := true, recurses := true, apart := false, narrowed := true }
def FnExactSeatsOnLineUptoSaid : Prop := fnExactSeatsOnLineUptoRow.holds Try.pinned (OpenSpec.upto fnExactSeatsOnLineSpec)

/-- 'laws.FnExactNextOut', WHERE WHAT IT READS IS OF BULK AT MOST 1048576: true; the input reads as it did. -/
def fnExactNextOutUptoRow : OpenClaim := { program := "ytiogjocbiagipab", sum := "4f4ce5e803c4b49497628f952978ed8f49d2e5cb8cf56dabd55580c9f200a838", func := "loop.example/g00935/laws.FnExactNextOut", spec := "fnExactNextOut", unfollowed := true, recurses := true, apart := false, narrowed := true }
def FnExactNextOutUptoSaid : Prop := fnExactNextOutUptoRow.holds Try.pinned (OpenSpec.upto fnExactNextOutSpec)

/-- 'laws.FnExactFewestCabins', WHERE WHAT IT READS IS OF BULK AT MOST 1048576: true; the input reads as it did. -/
def fnExactFewestCabinsUptoRow : OpenClaim := { program := "ytiogjocbiagipab", sum := "4f4ce5e803c4b49497628f952978ed8f49d2e5cb8cf56dabd55580c9f200a838", func := "loop.example/g00935/laws.FnExactFewestCabins", spec := "fnExactFewestCabins", unfollowed := true, recurses := true, apart := false, narrowed := true }
def FnExactFewestCabinsUptoSaid : Prop := fnExactFewestCabinsUptoRow.holds Try.pinned (OpenSpec.upto fnExactFewestCabinsSpec)

/-- 'laws.FnExactWornCabins', WHERE WHAT IT READS IS OF BULK AT MOST 1048576: true; the input reads as it did. -/
def fnExactWornCabinsUptoRow : OpenClaim := { program := "ytiogjocbiagipab", sum := "4f4ce5e803c4b49497628f952978ed8f49d2e5cb8cf56dabd55580c9f200a838", func := "loop.example/g00935/laws.FnExactWornCabins", spec := "fnExactWornCabins", unfollowed := true, recurses := true, apart := false, narrowed := true }
def FnExactWornCabinsUptoSaid : Prop := fnExactWornCabinsUptoRow.holds Try.pinned (OpenSpec.upto fnExactWornCabinsSpec)

end Rows
end Go.Proofs.Ytiogjocbiagipab
