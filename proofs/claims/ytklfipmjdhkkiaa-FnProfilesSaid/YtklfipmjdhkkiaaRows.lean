/-
  No cell of these rows narrows 'for every input' (looked for: loops, veiled, ifaces, maps, wideKeys, modest, calm, conditions, laid).
  DERIVED. THE GIVEN ROWS OF THIS SEAT. 5 by the template 'for every input the law returns true; each argument reads behind the call as it read before'; 0 by the template 'total and deterministic' (their statements: YtklfipmjdhkkiaaTotals.lean).
  GIVEN WITH THE SEED: the statements are not yours to turn. If you find one false, say at which input.
  Laid BY PROGRAM, IN A SANDBOX (cutbox-rows.mjs): the forced cells as the released guide's own fill.sh prints them over the translation 8ba75424d683f0fa… (all of the seat's roots in one cut). By AI agents, Wed Nov 11 2026. No macro, syntax, notation, axiom, sorry.
-/
import Derived.Test.YtklfipmjdhkkiaaChecked
import GoSem.Claim
import GoSem.ClaimJoined
import GoSem.ClaimMapViews
import Derived.JoinedTies
import Derived.KernelRfl
namespace Go.Proofs.Ytklfipmjdhkkiaa
/- THE CELL 'sum', in the pinned program and in every row, IS THE sha256 OF THE DUMP (.gsa) THAT YtklfipmjdhkkiaaProg.lean LOADS. Nothing in Lean hashes anything: it is a label: what it is worth is what the hold of that sum in a sandbox is worth. -/
noncomputable def Try.pinned : Pinned := { name := "ytklfipmjdhkkiaa", sum := "8ba75424d683f0fa5c44a9ca8f8ccccf75550a4f12f520250465ba37ccba74dc", checked := Try.checked }
namespace Rows
def none {H : Type} : Left H := { results := [], args := [] }

/-- 'laws.FnProfiles': WHATEVER THE INPUT: true; the input reads as it did. -/
def fnProfilesSpec : ChangeSpec := { name := "fnProfiles", fn := fun _ => fun
  | [d] => { results := [.lit (.bool true)], args := [d] }
  | _ => none }
def fnProfilesRow : OpenClaim := { program := "ytklfipmjdhkkiaa", sum := "8ba75424d683f0fa5c44a9ca8f8ccccf75550a4f12f520250465ba37ccba74dc", func := "loop.example/g00935/laws.FnProfiles", spec := "fnProfiles", unfollowed := true, recurses := true, apart := false }
def FnProfilesSaid : Prop := fnProfilesRow.holds Try.pinned (OpenSpec.ofChange fnProfilesSpec)

/-- ITS FALSE NEIGHBOUR: 'it returns false'. Refute it at one input. -/
def fnProfilesWrong : ChangeSpec := { name := "fnProfiles", fn := fun _ => fun
  | [d] => { results := [.lit (.bool false)], args := [d] }
  | _ => none }
def FnProfilesWrongFalsely : Prop := fnProfilesRow.holds Try.pinned (OpenSpec.ofChange fnProfilesWrong)

/-- 'laws.FnStops': WHATEVER THE INPUT: true; the input reads as it did. -/
def fnStopsSpec : ChangeSpec := { name := "fnStops", fn := fun _ => fun
  | [d] => { results := [.lit (.bool true)], args := [d] }
  | _ => none }
def fnStopsRow : OpenClaim := { program := "ytklfipmjdhkkiaa", sum := "8ba75424d683f0fa5c44a9ca8f8ccccf75550a4f12f520250465ba37ccba74dc", func := "loop.example/g00935/laws.FnStops", spec := "fnStops", unfollowed := true, recurses := true, apart := false }
def FnStopsSaid : Prop := fnStopsRow.holds Try.pinned (OpenSpec.ofChange fnStopsSpec)

/-- ITS FALSE NEIGHBOUR: 'it returns false'. Refute it at one input. -/
def fnStopsWrong : ChangeSpec := { name := "fnStops", fn := fun _ => fun
  | [d] => { results := [.lit (.bool false)], args := [d] }
  | _ => none }
def FnStopsWrongFalsely : Prop := fnStopsRow.holds Try.pinned (OpenSpec.ofChange fnStopsWrong)

/-- 'laws.FnExactDoubleWay': WHATEVER THE INPUT: true; the input reads as it did. -/
def fnExactDoubleWaySpec : ChangeSpec := { name := "fnExactDoubleWay", fn := fun _ => fun
  | [d] => { results := [.lit (.bool true)], args := [d] }
  | _ => none }
def fnExactDoubleWayRow : OpenClaim := { program := "ytklfipmjdhkkiaa", sum := "8ba75424d683f0fa5c44a9ca8f8ccccf75550a4f12f520250465ba37ccba74dc", func := "loop.example/g00935/laws.FnExactDoubleWay", spec := "fnExactDoubleWay", unfollowed := true, recurses := true, apart := false }
def FnExactDoubleWaySaid : Prop := fnExactDoubleWayRow.holds Try.pinned (OpenSpec.ofChange fnExactDoubleWaySpec)

/-- ITS FALSE NEIGHBOUR: 'it returns false'. Refute it at one input. -/
def fnExactDoubleWayWrong : ChangeSpec := { name := "fnExactDoubleWay", fn := fun _ => fun
  | [d] => { results := [.lit (.bool false)], args := [d] }
  | _ => none }
def FnExactDoubleWayWrongFalsely : Prop := fnExactDoubleWayRow.holds Try.pinned (OpenSpec.ofChange fnExactDoubleWayWrong)

/-- 'laws.FnExactStopWay': WHATEVER THE INPUT: true; the input reads as it did. -/
def fnExactStopWaySpec : ChangeSpec := { name := "fnExactStopWay", fn := fun _ => fun
  | [d1, d2] => { results := [.lit (.bool true)], args := [d1, d2] }
  | _ => none }
def fnExactStopWayRow : OpenClaim := { program := "ytklfipmjdhkkiaa", sum := "8ba75424d683f0fa5c44a9ca8f8ccccf75550a4f12f520250465ba37ccba74dc", func := "loop.example/g00935/laws.FnExactStopWay", spec := "fnExactStopWay", unfollowed := true, recurses := true, apart := false }
def FnExactStopWaySaid : Prop := fnExactStopWayRow.holds Try.pinned (OpenSpec.ofChange fnExactStopWaySpec)

/-- ITS FALSE NEIGHBOUR: 'it returns false'. Refute it at one input. -/
def fnExactStopWayWrong : ChangeSpec := { name := "fnExactStopWay", fn := fun _ => fun
  | [d1, d2] => { results := [.lit (.bool false)], args := [d1, d2] }
  | _ => none }
def FnExactStopWayWrongFalsely : Prop := fnExactStopWayRow.holds Try.pinned (OpenSpec.ofChange fnExactStopWayWrong)

/-- 'laws.FnExactSpeedFor': WHATEVER THE INPUT: true; the input reads as it did. -/
def fnExactSpeedForSpec : ChangeSpec := { name := "fnExactSpeedFor", fn := fun _ => fun
  | [d1, d2] => { results := [.lit (.bool true)], args := [d1, d2] }
  | _ => none }
def fnExactSpeedForRow : OpenClaim := { program := "ytklfipmjdhkkiaa", sum := "8ba75424d683f0fa5c44a9ca8f8ccccf75550a4f12f520250465ba37ccba74dc", func := "loop.example/g00935/laws.FnExactSpeedFor", spec := "fnExactSpeedFor", unfollowed := true, recurses := true, apart := false }
def FnExactSpeedForSaid : Prop := fnExactSpeedForRow.holds Try.pinned (OpenSpec.ofChange fnExactSpeedForSpec)

/-- ITS FALSE NEIGHBOUR: 'it returns false'. Refute it at one input. -/
def fnExactSpeedForWrong : ChangeSpec := { name := "fnExactSpeedFor", fn := fun _ => fun
  | [d1, d2] => { results := [.lit (.bool false)], args := [d1, d2] }
  | _ => none }
def FnExactSpeedForWrongFalsely : Prop := fnExactSpeedForRow.holds Try.pinned (OpenSpec.ofChange fnExactSpeedForWrong)

/- THE SECOND FORM. 'bulk': how many values and letters a reading holds, each counted each time it is reached (what is shared counts as often as it is met; a slice's spare places count too). A statement '..UptoSaid' is the law's where the arguments, and the package variables that the reading takes, are together of bulk at most 1048576: NARROWER than '..Said'. Prove '..Said' where nothing that the law and all that it calls make is longer than what came in: it says more and counts as full. Else prove '..UptoSaid'. A law counts once. -/
mutual
def uptoBulk {H : Type} : DataW H → Nat
  | .lit (.string bytes) => bytes.length + 1
  | .lit _ => 1
  | .nil => 1
  | .ptr d => uptoBulk d + 1
  | .slice elems spare => uptoBulkAll elems + uptoBulkAll spare + 1
  | .agg parts => uptoBulkAll parts + 1
  | .iface _ d => uptoBulk d + 1
  | .map entries => uptoBulkEntries entries + 1
  | .held _ => 1
def uptoBulkAll {H : Type} : List (DataW H) → Nat
  | [] => 0
  | d :: r => uptoBulk d + uptoBulkAll r
def uptoBulkEntries {H : Type} : List (Lit × DataW H) → Nat
  | [] => 0
  | x :: r => uptoBulkEntry x + uptoBulkEntries r
def uptoBulkEntry {H : Type} : Lit × DataW H → Nat
  | (.string bytes, d) => bytes.length + uptoBulk d + 1
  | (_, d) => uptoBulk d + 1
 end
def uptoSmall : (H : Type) → List (DataW H) → Bool := fun _ ds => decide (uptoBulkAll ds ≤ 1048576)
def OpenSpec.upto (s : _root_.Go.ChangeSpec) : _root_.Go.OpenSpec := { _root_.Go.OpenSpec.ofChange s with cond := some uptoSmall }

/-- 'laws.FnProfiles', WHERE WHAT IT READS IS OF BULK AT MOST 1048576: true; the input reads as it did. -/
def fnProfilesUptoRow : OpenClaim := { program := "ytklfipmjdhkkiaa", sum := "8ba75424d683f0fa5c44a9ca8f8ccccf75550a4f12f520250465ba37ccba74dc", func := "loop.example/g00935/laws.FnProfiles", spec := "fnProfiles", unfollowed := true, recurses := true, apart := false, narrowed := true }
def FnProfilesUptoSaid : Prop := fnProfilesUptoRow.holds Try.pinned (OpenSpec.upto fnProfilesSpec)

/-- 'laws.FnStops', WHERE WHAT IT READS IS OF BULK AT MOST 1048576: true; the input reads as it did. -/
def fnStopsUptoRow : OpenClaim := { program := "ytklfipmjdhkkiaa", sum := "8ba75424d683f0fa5c44a9ca8f8ccccf75550a4f12f520250465ba37ccba74dc", func := "loop.example/g00935/laws.FnStops", spec := "fnStops", unfollowed := true, recurses := true, apart := false, narrowed := true }
def FnStopsUptoSaid : Prop := fnStopsUptoRow.holds Try.pinned (OpenSpec.upto fnStopsSpec)

/-- 'laws.FnExactDoubleWay', WHERE WHAT IT READS IS OF BULK AT MOST 1048576: true; the input reads as it did. -/
def fnExactDoubleWayUptoRow : OpenClaim := { program := "ytklfipmjdhkkiaa", sum := "8ba75424d683f0fa5c44a9ca8f8ccccf75550a4f12f520250465ba37ccba74dc", func := "loop.example/g00935/laws.FnExactDoubleWay", spec := "fnExactDoubleWay", unfollowed := true, recurses := true, apart := false, narrowed := true }
def FnExactDoubleWayUptoSaid : Prop := fnExactDoubleWayUptoRow.holds Try.pinned (OpenSpec.upto fnExactDoubleWaySpec)

/-- 'laws.FnExactStopWay', WHERE WHAT IT READS IS OF BULK AT MOST 1048576: true; the input reads as it did. -/
def fnExactStopWayUptoRow : OpenClaim := { program := "ytklfipmjdhkkiaa", sum := "8ba75424d683f0fa5c44a9ca8f8ccccf75550a4f12f520250465ba37ccba74dc", func := "loop.example/g00935/laws.FnExactStopWay", spec := "fnExactStopWay", unfollowed := true, recurses := true, apart := false, narrowed := true }
def FnExactStopWayUptoSaid : Prop := fnExactStopWayUptoRow.holds Try.pinned (OpenSpec.upto fnExactStopWaySpec)

/-- 'laws.FnExactSpeedFor', WHERE WHAT IT READS IS OF BULK AT MOST 1048576: true; the input reads as it did. -/
def fnExactSpeedForUptoRow : OpenClaim := { program := "ytklfipmjdhkkiaa", sum := "8ba75424d683f0fa5c44a9ca8f8ccccf75550a4f12f520250465ba37ccba74dc", func := "loop.example/g00935/laws.FnExactSpeedFor", spec := "fnExactSpeedFor", unfollowed := true, recurses := true, apart := false, narrowed := true }
def FnExactSpeedForUptoSaid : Prop := fnExactSpeedForUptoRow.holds Try.pinned (OpenSpec.upto fnExactSpeedForSpec)

end Rows
end Go.Proofs.Ytklfipmjdhkkiaa
