/-
  No cell of these rows narrows 'for every input' (looked for: loops, veiled, ifaces, maps, wideKeys, modest, calm, conditions, laid).
  DERIVED. THE GIVEN ROWS OF THIS SEAT. 11 by the template 'for every input the law returns true; each argument reads behind the call as it read before'; 0 by the template 'total and deterministic' (their statements: YtoamhbobcpljpaaTotals.lean).
  GIVEN WITH THE SEED: the statements are not yours to turn. If you find one false, say at which input.
  Laid BY PROGRAM, IN A SANDBOX (cutbox-rows.mjs): the forced cells as the released guide's own fill.sh prints them over the translation 371e3d232c1d2069… (all of the seat's roots in one cut). By AI agents, Wed Nov 11 2026. No macro, syntax, notation, axiom, sorry.
-/
import Derived.Test.YtoamhbobcpljpaaChecked
import GoSem.Claim
import GoSem.ClaimJoined
import GoSem.ClaimMapViews
import Derived.JoinedTies
import Derived.KernelRfl
namespace Go.Proofs.Ytoamhbobcpljpaa
/- THE CELL 'sum', in the pinned program and in every row, IS THE sha256 OF THE DUMP (.gsa) THAT YtoamhbobcpljpaaProg.lean LOADS. Nothing in Lean hashes anything: it is a label: what it is worth is what the hold of that sum in a sandbox is worth. -/
noncomputable def Try.pinned : Pinned := { name := "ytoamhbobcpljpaa", sum := "371e3d232c1d2069685f8f4cfabf3dadc2de8273185803c032cd24a4684b4f75", checked := Try.checked }
namespace Rows
def none {H : Type} : Left H := { results := [], args := [] }

/-- 'laws.FnWinds': WHATEVER THE INPUT: true; the input reads as it did. -/
def fnWindsSpec : ChangeSpec := { name := "fnWinds", fn := fun _ => fun
  | [d] => { results := [.lit (.bool true)], args := [d] }
  | _ => none }
def fnWindsRow : OpenClaim := { program := "ytoamhbobcpljpaa", sum := "371e3d232c1d2069685f8f4cfabf3dadc2de8273185803c032cd24a4684b4f75", func := "loop.example/g00935/laws.FnWinds", spec := "fnWinds", unfollowed := true, recurses := true, apart := false }
def FnWindsSaid : Prop := fnWindsRow.holds Try.pinned (OpenSpec.ofChange fnWindsSpec)

/-- ITS FALSE NEIGHBOUR: 'it returns false'. Refute it at one input. -/
def fnWindsWrong : ChangeSpec := { name := "fnWinds", fn := fun _ => fun
  | [d] => { results := [.lit (.bool false)], args := [d] }
  | _ => none }
def FnWindsWrongFalsely : Prop := fnWindsRow.holds Try.pinned (OpenSpec.ofChange fnWindsWrong)

/-- 'laws.FnVotes': WHATEVER THE INPUT: true; the input reads as it did. -/
def fnVotesSpec : ChangeSpec := { name := "fnVotes", fn := fun _ => fun
  | [d] => { results := [.lit (.bool true)], args := [d] }
  | _ => none }
def fnVotesRow : OpenClaim := { program := "ytoamhbobcpljpaa", sum := "371e3d232c1d2069685f8f4cfabf3dadc2de8273185803c032cd24a4684b4f75", func := "loop.example/g00935/laws.FnVotes", spec := "fnVotes", unfollowed := true, recurses := true, apart := false }
def FnVotesSaid : Prop := fnVotesRow.holds Try.pinned (OpenSpec.ofChange fnVotesSpec)

/-- ITS FALSE NEIGHBOUR: 'it returns false'. Refute it at one input. -/
def fnVotesWrong : ChangeSpec := { name := "fnVotes", fn := fun _ => fun
  | [d] => { results := [.lit (.bool false)], args := [d] }
  | _ => none }
def FnVotesWrongFalsely : Prop := fnVotesRow.holds Try.pinned (OpenSpec.ofChange fnVotesWrong)

/-- 'laws.FnExactVoteOf': WHATEVER THE INPUT: true; the input reads as it did. -/
def fnExactVoteOfSpec : ChangeSpec := { name := "fnExactVoteOf", fn := fun _ => fun
  | [d] => { results := [.lit (.bool true)], args := [d] }
  | _ => none }
def fnExactVoteOfRow : OpenClaim := { program := "ytoamhbobcpljpaa", sum := "371e3d232c1d2069685f8f4cfabf3dadc2de8273185803c032cd24a4684b4f75", func := "loop.example/g00935/laws.FnExactVoteOf", spec := "fnExactVoteOf", unfollowed := true, recurses := true, apart := false }
def FnExactVoteOfSaid : Prop := fnExactVoteOfRow.holds Try.pinned (OpenSpec.ofChange fnExactVoteOfSpec)

/-- ITS FALSE NEIGHBOUR: 'it returns false'. Refute it at one input. -/
def fnExactVoteOfWrong : ChangeSpec := { name := "fnExactVoteOf", fn := fun _ => fun
  | [d] => { results := [.lit (.bool false)], args := [d] }
  | _ => none }
def FnExactVoteOfWrongFalsely : Prop := fnExactVoteOfRow.holds Try.pinned (OpenSpec.ofChange fnExactVoteOfWrong)

/-- 'laws.FnExactIsWindRule': WHATEVER THE INPUT: true; the input reads as it did. -/
def fnExactIsWindRuleSpec : ChangeSpec := { name := "fnExactIsWindRule", fn := fun _ => fun
  | [d] => { results := [.lit (.bool true)], args := [d] }
  | _ => none }
def fnExactIsWindRuleRow : OpenClaim := { program := "ytoamhbobcpljpaa", sum := "371e3d232c1d2069685f8f4cfabf3dadc2de8273185803c032cd24a4684b4f75", func := "loop.example/g00935/laws.FnExactIsWindRule", spec := "fnExactIsWindRule", apart := false }
def FnExactIsWindRuleSaid : Prop := fnExactIsWindRuleRow.holds Try.pinned (OpenSpec.ofChange fnExactIsWindRuleSpec)

/-- ITS FALSE NEIGHBOUR: 'it returns false'. Refute it at one input. -/
def fnExactIsWindRuleWrong : ChangeSpec := { name := "fnExactIsWindRule", fn := fun _ => fun
  | [d] => { results := [.lit (.bool false)], args := [d] }
  | _ => none }
def FnExactIsWindRuleWrongFalsely : Prop := fnExactIsWindRuleRow.holds Try.pinned (OpenSpec.ofChange fnExactIsWindRuleWrong)

/-- 'laws.FnExactNextWind': WHATEVER THE INPUT: true; the input reads as it did. -/
def fnExactNextWindSpec : ChangeSpec := { name := "fnExactNextWind", fn := fun _ => fun
  | [d1, d2, d3] => { results := [.lit (.bool true)], args := [d1, d2, d3] }
  | _ => none }
def fnExactNextWindRow : OpenClaim := { program := "ytoamhbobcpljpaa", sum := "371e3d232c1d2069685f8f4cfabf3dadc2de8273185803c032cd24a4684b4f75", func := "loop.example/g00935/laws.FnExactNextWind", spec := "fnExactNextWind", apart := false }
def FnExactNextWindSaid : Prop := fnExactNextWindRow.holds Try.pinned (OpenSpec.ofChange fnExactNextWindSpec)

/-- ITS FALSE NEIGHBOUR: 'it returns false'. Refute it at one input. -/
def fnExactNextWindWrong : ChangeSpec := { name := "fnExactNextWind", fn := fun _ => fun
  | [d1, d2, d3] => { results := [.lit (.bool false)], args := [d1, d2, d3] }
  | _ => none }
def FnExactNextWindWrongFalsely : Prop := fnExactNextWindRow.holds Try.pinned (OpenSpec.ofChange fnExactNextWindWrong)

/-- 'laws.FnExactRunWind': WHATEVER THE INPUT: true; the input reads as it did. -/
def fnExactRunWindSpec : ChangeSpec := { name := "fnExactRunWind", fn := fun _ => fun
  | [d1, d2, d3] => { results := [.lit (.bool true)], args := [d1, d2, d3] }
  | _ => none }
def fnExactRunWindRow : OpenClaim := { program := "ytoamhbobcpljpaa", sum := "371e3d232c1d2069685f8f4cfabf3dadc2de8273185803c032cd24a4684b4f75", func := "loop.example/g00935/laws.FnExactRunWind", spec := "fnExactRunWind", apart := false }
def FnExactRunWindSaid : Prop := fnExactRunWindRow.holds Try.pinned (OpenSpec.ofChange fnExactRunWindSpec)

/-- ITS FALSE NEIGHBOUR: 'it returns false'. Refute it at one input. -/
def fnExactRunWindWrong : ChangeSpec := { name := "fnExactRunWind", fn := fun _ => fun
  | [d1, d2, d3] => { results := [.lit (.bool false)], args := [d1, d2, d3] }
  | _ => none }
def FnExactRunWindWrongFalsely : Prop := fnExactRunWindRow.holds Try.pinned (OpenSpec.ofChange fnExactRunWindWrong)

/-- 'laws.FnExactBrokenSensors': WHATEVER THE INPUT: true; the input reads as it did. -/
def fnExactBrokenSensorsSpec : ChangeSpec := { name := "fnExactBrokenSensors", fn := fun _ => fun
  | [d1, d2] => { results := [.lit (.bool true)], args := [d1, d2] }
  | _ => none }
def fnExactBrokenSensorsRow : OpenClaim := { program := "ytoamhbobcpljpaa", sum := "371e3d232c1d2069685f8f4cfabf3dadc2de8273185803c032cd24a4684b4f75", func := "loop.example/g00935/laws.FnExactBrokenSensors", spec := "fnExactBrokenSensors", unfollowed := true, recurses := true, apart := false }
def FnExactBrokenSensorsSaid : Prop := fnExactBrokenSensorsRow.holds Try.pinned (OpenSpec.ofChange fnExactBrokenSensorsSpec)

/-- ITS FALSE NEIGHBOUR: 'it returns false'. Refute it at one input. -/
def fnExactBrokenSensorsWrong : ChangeSpec := { name := "fnExactBrokenSensors", fn := fun _ => fun
  | [d1, d2] => { results := [.lit (.bool false)], args := [d1, d2] }
  | _ => none }
def FnExactBrokenSensorsWrongFalsely : Prop := fnExactBrokenSensorsRow.holds Try.pinned (OpenSpec.ofChange fnExactBrokenSensorsWrong)

/-- 'laws.FnExactTimeStopped': WHATEVER THE INPUT: true; the input reads as it did. -/
def fnExactTimeStoppedSpec : ChangeSpec := { name := "fnExactTimeStopped", fn := fun _ => fun
  | [d1, d2] => { results := [.lit (.bool true)], args := [d1, d2] }
  | _ => none }
def fnExactTimeStoppedRow : OpenClaim := { program := "ytoamhbobcpljpaa", sum := "371e3d232c1d2069685f8f4cfabf3dadc2de8273185803c032cd24a4684b4f75", func := "loop.example/g00935/laws.FnExactTimeStopped", spec := "fnExactTimeStopped", unfollowed := true, recurses := true, apart := false }
def FnExactTimeStoppedSaid : Prop := fnExactTimeStoppedRow.holds Try.pinned (OpenSpec.ofChange fnExactTimeStoppedSpec)

/-- ITS FALSE NEIGHBOUR: 'it returns false'. Refute it at one input. -/
def fnExactTimeStoppedWrong : ChangeSpec := { name := "fnExactTimeStopped", fn := fun _ => fun
  | [d1, d2] => { results := [.lit (.bool false)], args := [d1, d2] }
  | _ => none }
def FnExactTimeStoppedWrongFalsely : Prop := fnExactTimeStoppedRow.holds Try.pinned (OpenSpec.ofChange fnExactTimeStoppedWrong)

/-- 'laws.FnExactEarliestFree': WHATEVER THE INPUT: true; the input reads as it did. -/
def fnExactEarliestFreeSpec : ChangeSpec := { name := "fnExactEarliestFree", fn := fun _ => fun
  | [d1, d2] => { results := [.lit (.bool true)], args := [d1, d2] }
  | _ => none }
def fnExactEarliestFreeRow : OpenClaim := { program := "ytoamhbobcpljpaa", sum := "371e3d232c1d2069685f8f4cfabf3dadc2de8273185803c032cd24a4684b4f75", func := "loop.example/g00935/laws.FnExactEarliestFree", spec := "fnExactEarliestFree", apart := false }
def FnExactEarliestFreeSaid : Prop := fnExactEarliestFreeRow.holds Try.pinned (OpenSpec.ofChange fnExactEarliestFreeSpec)

/-- ITS FALSE NEIGHBOUR: 'it returns false'. Refute it at one input. -/
def fnExactEarliestFreeWrong : ChangeSpec := { name := "fnExactEarliestFree", fn := fun _ => fun
  | [d1, d2] => { results := [.lit (.bool false)], args := [d1, d2] }
  | _ => none }
def FnExactEarliestFreeWrongFalsely : Prop := fnExactEarliestFreeRow.holds Try.pinned (OpenSpec.ofChange fnExactEarliestFreeWrong)

/-- 'laws.FnExactGreatestFree': WHATEVER THE INPUT: true; the input reads as it did. -/
def fnExactGreatestFreeSpec : ChangeSpec := { name := "fnExactGreatestFree", fn := fun _ => fun
  | [d] => { results := [.lit (.bool true)], args := [d] }
  | _ => none }
def fnExactGreatestFreeRow : OpenClaim := { program := "ytoamhbobcpljpaa", sum := "371e3d232c1d2069685f8f4cfabf3dadc2de8273185803c032cd24a4684b4f75", func := "loop.example/g00935/laws.FnExactGreatestFree", spec := "fnExactGreatestFree", apart := false }
def FnExactGreatestFreeSaid : Prop := fnExactGreatestFreeRow.holds Try.pinned (OpenSpec.ofChange fnExactGreatestFreeSpec)

/-- ITS FALSE NEIGHBOUR: 'it returns false'. Refute it at one input. -/
def fnExactGreatestFreeWrong : ChangeSpec := { name := "fnExactGreatestFree", fn := fun _ => fun
  | [d] => { results := [.lit (.bool false)], args := [d] }
  | _ => none }
def FnExactGreatestFreeWrongFalsely : Prop := fnExactGreatestFreeRow.holds Try.pinned (OpenSpec.ofChange fnExactGreatestFreeWrong)

/-- 'laws.FnExactCompareRules': WHATEVER THE INPUT: true; the input reads as it did. -/
def fnExactCompareRulesSpec : ChangeSpec := { name := "fnExactCompareRules", fn := fun _ => fun
  | [d1, d2, d3] => { results := [.lit (.bool true)], args := [d1, d2, d3] }
  | _ => none }
def fnExactCompareRulesRow : OpenClaim := { program := "ytoamhbobcpljpaa", sum := "371e3d232c1d2069685f8f4cfabf3dadc2de8273185803c032cd24a4684b4f75", func := "loop.example/g00935/laws.FnExactCompareRules", spec := "fnExactCompareRules", apart := false }
def FnExactCompareRulesSaid : Prop := fnExactCompareRulesRow.holds Try.pinned (OpenSpec.ofChange fnExactCompareRulesSpec)

/-- ITS FALSE NEIGHBOUR: 'it returns false'. Refute it at one input. -/
def fnExactCompareRulesWrong : ChangeSpec := { name := "fnExactCompareRules", fn := fun _ => fun
  | [d1, d2, d3] => { results := [.lit (.bool false)], args := [d1, d2, d3] }
  | _ => none }
def FnExactCompareRulesWrongFalsely : Prop := fnExactCompareRulesRow.holds Try.pinned (OpenSpec.ofChange fnExactCompareRulesWrong)

/- THE SECOND FORM. 'bulk': how many values and letters a reading holds, each counted each time it is reached (what is shared counts as often as it is met; a slice's spare places count too). A statement '..UptoSaid' is the law's where the arguments, and the package variables that the reading takes, are together of bulk at most 1048576: NARROWER than '..Said'. Prove '..Said' where nothing that the law and all that it calls make is longer than what came in: it says more and counts as full. Else prove '..UptoSaid'. A law counts once. -/
mutual
def uptoBulk {H : Type} : DataW H → Nat
  | .lit (.string bytes) => bytes.length + 1
  | .lit _ => 1
  | .nil => 1
  | .ptr d => uptoBulk d + 1
  | .slice elems spare => uptoBulkAll elems + uptoBulkAll spare + 1
  | .agg parts => uptoBulkAll parts + 1
  | .iface _ d => uptoBulk d + 1
  | .map entries => uptoBulkEntries entries + 1
  | .held _ => 1
def uptoBulkAll {H : Type} : List (DataW H) → Nat
  | [] => 0
  | d :: r => uptoBulk d + uptoBulkAll r
def uptoBulkEntries {H : Type} : List (Lit × DataW H) → Nat
  | [] => 0
  | x :: r => uptoBulkEntry x + uptoBulkEntries r
def uptoBulkEntry {H : Type} : Lit × DataW H → Nat
  | (.string bytes, d) => bytes.length + uptoBulk d + 1
  | (_, d) => uptoBulk d + 1
 end
def uptoSmall : (H : Type) → List (DataW H) → Bool := fun _ ds => decide (uptoBulkAll ds ≤ 1048576)
def OpenSpec.upto (s : _root_.Go.ChangeSpec) : _root_.Go.OpenSpec := { _root_.Go.OpenSpec.ofChange s with cond := some uptoSmall }

/-- 'laws.FnWinds', WHERE WHAT IT READS IS OF BULK AT MOST 1048576: true; the input reads as it did. -/
def fnWindsUptoRow : OpenClaim := { program := "ytoamhbobcpljpaa", sum := "371e3d232c1d2069685f8f4cfabf3dadc2de8273185803c032cd24a4684b4f75", func := "loop.example/g00935/laws.FnWinds", spec := "fnWinds", unfollowed := true, recurses := true, apart := false, narrowed := true }
def FnWindsUptoSaid : Prop := fnWindsUptoRow.holds Try.pinned (OpenSpec.upto fnWindsSpec)

/-- 'laws.FnVotes', WHERE WHAT IT READS IS OF BULK AT MOST 1048576: true; the input reads as it did. -/
def fnVotesUptoRow : OpenClaim := { program := "ytoamhbobcpljpaa", sum := "371e3d232c1d2069685f8f4cfabf3dadc2de8273185803c032cd24a4684b4f75", func := "loop.example/g00935/laws.FnVotes", spec := "fnVotes", unfollowed := true, recurses := true, apart := false, narrowed := true }
def FnVotesUptoSaid : Prop := fnVotesUptoRow.holds Try.pinned (OpenSpec.upto fnVotesSpec)

/-- 'laws.FnExactVoteOf', WHERE WHAT IT READS IS OF BULK AT MOST 1048576: true; the input reads as it did. -/
def fnExactVoteOfUptoRow : OpenClaim := { program := "ytoamhbobcpljpaa", sum := "371e3d232c1d2069685f8f4cfabf3dadc2de8273185803c032cd24a4684b4f75", func := "loop.example/g00935/laws.FnExactVoteOf", spec := "fnExactVoteOf", unfollowed := true, recurses := true, apart := false, narrowed := true }
def FnExactVoteOfUptoSaid : Prop := fnExactVoteOfUptoRow.holds Try.pinned (OpenSpec.upto fnExactVoteOfSpec)

/-- 'laws.FnExactIsWindRule', WHERE WHAT IT READS IS OF BULK AT MOST 1048576: true; the input reads as it did. -/
def fnExactIsWindRuleUptoRow : OpenClaim := { program := "ytoamhbobcpljpaa", sum := "371e3d232c1d2069685f8f4cfabf3dadc2de8273185803c032cd24a4684b4f75", func := "loop.example/g00935/laws.FnExactIsWindRule", spec := "fnExactIsWindRule", apart := false, narrowed := true }
def FnExactIsWindRuleUptoSaid : Prop := fnExactIsWindRuleUptoRow.holds Try.pinned (OpenSpec.upto fnExactIsWindRuleSpec)

/-- 'laws.FnExactNextWind', WHERE WHAT IT READS IS OF BULK AT MOST 1048576: true; the input reads as it did. -/
def fnExactNextWindUptoRow : OpenClaim := { program := "ytoamhbobcpljpaa", sum := "371e3d232c1d2069685f8f4cfabf3dadc2de8273185803c032cd24a4684b4f75", func := "loop.example/g00935/laws.FnExactNextWind", spec := "fnExactNextWind", apart := false, narrowed := true }
def FnExactNextWindUptoSaid : Prop := fnExactNextWindUptoRow.holds Try.pinned (OpenSpec.upto fnExactNextWindSpec)

/-- 'laws.FnExactRunWind', WHERE WHAT IT READS IS OF BULK AT MOST 1048576: true; the input reads as it did. -/
def fnExactRunWindUptoRow : OpenClaim := { program := "ytoamhbobcpljpaa", sum := "371e3d232c1d2069685f8f4cfabf3dadc2de8273185803c032cd24a4684b4f75", func := "loop.example/g00935/laws.FnExactRunWind", spec := "fnExactRunWind", apart := false, narrowed := true }
def FnExactRunWindUptoSaid : Prop := fnExactRunWindUptoRow.holds Try.pinned (OpenSpec.upto fnExactRunWindSpec)

/-- 'laws.FnExactBrokenSensors', WHERE WHAT IT READS IS OF BULK AT MOST 1048576: true; the input reads as it did. -/
def fnExactBrokenSensorsUptoRow : OpenClaim := { program := "ytoamhbobcpljpaa", sum := "371e3d232c1d2069685f8f4cfabf3dadc2de8273185803c032cd24a4684b4f75", func := "loop.example/g00935/laws.FnExactBrokenSensors", spec := "fnExactBrokenSensors", unfollowed := true, recurses := true, apart := false, narrowed := true }
def FnExactBrokenSensorsUptoSaid : Prop := fnExactBrokenSensorsUptoRow.holds Try.pinned (OpenSpec.upto fnExactBrokenSensorsSpec)

/-- 'laws.FnExactTimeStopped', WHERE WHAT IT READS IS OF BULK AT MOST 1048576: true; the input reads as it did. -/
def fnExactTimeStoppedUptoRow : OpenClaim := { program := "ytoamhbobcpljpaa", sum := "371e3d232c1d2069685f8f4cfabf3dadc2de8273185803c032cd24a4684b4f75", func := "loop.example/g00935/laws.FnExactTimeStopped", spec := "fnExactTimeStopped", unfollowed := true, recurses := true, apart := false, narrowed := true }
def FnExactTimeStoppedUptoSaid : Prop := fnExactTimeStoppedUptoRow.holds Try.pinned (OpenSpec.upto fnExactTimeStoppedSpec)

/-- 'laws.FnExactEarliestFree', WHERE WHAT IT READS IS OF BULK AT MOST 1048576: true; the input reads as it did. -/
def fnExactEarliestFreeUptoRow : OpenClaim := { program := "ytoamhbobcpljpaa", sum := "371e3d232c1d2069685f8f4cfabf3dadc2de8273185803c032cd24a4684b4f75", func := "loop.example/g00935/laws.FnExactEarliestFree", spec := "fnExactEarliestFree", apart := false, narrowed := true }
def FnExactEarliestFreeUptoSaid : Prop := fnExactEarliestFreeUptoRow.holds Try.pinned (OpenSpec.upto fnExactEarliestFreeSpec)

/-- 'laws.FnExactGreatestFree', WHERE WHAT IT READS IS OF BULK AT MOST 1048576: true; the input reads as it did. -/
def fnExactGreatestFreeUptoRow : OpenClaim := { program := "ytoamhbobcpljpaa", sum := "371e3d232c1d2069685f8f4cfabf3dadc2de8273185803c032cd24a4684b4f75", func := "loop.example/g00935/laws.FnExactGreatestFree", spec := "fnExactGreatestFree", apart := false, narrowed := true }
def FnExactGreatestFreeUptoSaid : Prop := fnExactGreatestFreeUptoRow.holds Try.pinned (OpenSpec.upto fnExactGreatestFreeSpec)

/-- 'laws.FnExactCompareRules', WHERE WHAT IT READS IS OF BULK AT MOST 1048576: true; the input reads as it did. -/
def fnExactCompareRulesUptoRow : OpenClaim := { program := "ytoamhbobcpljpaa", sum := "371e3d232c1d2069685f8f4cfabf3dadc2de8273185803c032cd24a4684b4f75", func := "loop.example/g00935/laws.FnExactCompareRules", spec := "fnExactCompareRules", apart := false, narrowed := true }
def FnExactCompareRulesUptoSaid : Prop := fnExactCompareRulesUptoRow.holds Try.pinned (OpenSpec.upto fnExactCompareRulesSpec)

end Rows
end Go.Proofs.Ytoamhbobcpljpaa
