/-
  NARROWER THAN 'FOR EVERY INPUT', by the rows' own cells (each row's printed sentence says how): FnBrakes: laid · FnLoads: laid · FnExactBrakeSpeeds: laid · FnExactBrakeWay: laid · FnExactWayWithout: laid · FnExactWorstLoss: laid · FnExactFewestBrakes: laid · FnExactSafeSpeed: laid · FnExactHoldsStill: laid · FnExactWorstPull: laid.
  DERIVED. THE GIVEN ROWS OF THIS SEAT. 10 by the template 'for every input the law returns true; each argument reads behind the call as it read before'; 0 by the template 'total and deterministic' (their statements: YthmoogkllpcebaaDoorTotals.lean).
  GIVEN WITH THE SEED: the statements are not yours to turn. If you find one false, say at which input.
  Laid BY PROGRAM, IN A SANDBOX (cutbox-rows.mjs): the forced cells as the released guide's own fill.sh prints them over the translation e00c1a90ed71a09a… (all of the seat's roots in one cut). By AI agents, Wed Nov 11 2026. No macro, syntax, notation, axiom, sorry.
-/
import Derived.Test.YthmoogkllpcebaaDoorChecked
import GoSem.Claim
import GoSem.ClaimJoined
import GoSem.ClaimMapViews
import Derived.JoinedTies
import Derived.KernelRfl
namespace Go.Proofs.YthmoogkllpcebaaDoor
/- THE CELL 'sum', in the pinned program and in every row, IS THE sha256 OF THE DUMP (.gsa) THAT YthmoogkllpcebaaDoorProg.lean LOADS. Nothing in Lean hashes anything: it is a label: what it is worth is what the hold of that sum in a sandbox is worth. -/
noncomputable def Tryd.pinned : Pinned := { name := "ythmoogkllpcebaadoor", sum := "e00c1a90ed71a09a5b07e70b52c5d38bc398cad950c17aa917ebfa79efe1417f", checked := Tryd.checked }
namespace Rows
def none {H : Type} : Left H := { results := [], args := [] }

/- WHAT THE LISTED PACKAGE-LEVEL VARIABLES READ AS WHEN THE CALL BEGINS. Each datum BY PROGRAM (the guide's laid-datum.mjs) off the statement by which the dump's own 'gosem.cut.vars' lays the variable. In a bare row this is a premise. The card (YthmoogkllpcebaaDoorCards.lean) ties it to the program's text. -/
def laid_math_bits_deBruijn32tab {H : Type} : DataW H := .agg [.lit (.int .u8 0), .lit (.int .u8 1), .lit (.int .u8 28), .lit (.int .u8 2), .lit (.int .u8 29), .lit (.int .u8 14), .lit (.int .u8 24), .lit (.int .u8 3), .lit (.int .u8 30), .lit (.int .u8 22), .lit (.int .u8 20), .lit (.int .u8 15), .lit (.int .u8 25), .lit (.int .u8 17), .lit (.int .u8 4), .lit (.int .u8 8), .lit (.int .u8 31), .lit (.int .u8 27), .lit (.int .u8 13), .lit (.int .u8 23), .lit (.int .u8 21), .lit (.int .u8 19), .lit (.int .u8 16), .lit (.int .u8 7), .lit (.int .u8 26), .lit (.int .u8 12), .lit (.int .u8 18), .lit (.int .u8 6), .lit (.int .u8 11), .lit (.int .u8 5), .lit (.int .u8 10), .lit (.int .u8 9)]
def laid_math_bits_deBruijn64tab {H : Type} : DataW H := .agg [.lit (.int .u8 0), .lit (.int .u8 1), .lit (.int .u8 56), .lit (.int .u8 2), .lit (.int .u8 57), .lit (.int .u8 49), .lit (.int .u8 28), .lit (.int .u8 3), .lit (.int .u8 61), .lit (.int .u8 58), .lit (.int .u8 42), .lit (.int .u8 50), .lit (.int .u8 38), .lit (.int .u8 29), .lit (.int .u8 17), .lit (.int .u8 4), .lit (.int .u8 62), .lit (.int .u8 47), .lit (.int .u8 59), .lit (.int .u8 36), .lit (.int .u8 45), .lit (.int .u8 43), .lit (.int .u8 51), .lit (.int .u8 22), .lit (.int .u8 53), .lit (.int .u8 39), .lit (.int .u8 33), .lit (.int .u8 30), .lit (.int .u8 24), .lit (.int .u8 18), .lit (.int .u8 12), .lit (.int .u8 5), .lit (.int .u8 63), .lit (.int .u8 55), .lit (.int .u8 48), .lit (.int .u8 27), .lit (.int .u8 60), .lit (.int .u8 41), .lit (.int .u8 37), .lit (.int .u8 16), .lit (.int .u8 46), .lit (.int .u8 35), .lit (.int .u8 44), .lit (.int .u8 21), .lit (.int .u8 52), .lit (.int .u8 32), .lit (.int .u8 23), .lit (.int .u8 11), .lit (.int .u8 54), .lit (.int .u8 26), .lit (.int .u8 40), .lit (.int .u8 15), .lit (.int .u8 34), .lit (.int .u8 20), .lit (.int .u8 31), .lit (.int .u8 10), .lit (.int .u8 25), .lit (.int .u8 14), .lit (.int .u8 19), .lit (.int .u8 9), .lit (.int .u8 13), .lit (.int .u8 8), .lit (.int .u8 7), .lit (.int .u8 6)]

/-- 'laws.FnBrakes': WHATEVER THE INPUT: true; the input reads as it did. -/
def fnBrakesSpec : ChangeSpec := { name := "fnBrakes", fn := fun _ => fun
  | [d] => { results := [.lit (.bool true)], args := [d] }
  | _ => none }
def fnBrakesRow : OpenClaim := { program := "ythmoogkllpcebaadoor", sum := "e00c1a90ed71a09a5b07e70b52c5d38bc398cad950c17aa917ebfa79efe1417f", func := "loop.example/g00935/laws.FnBrakes", spec := "fnBrakes", unfollowed := true, recurses := true, named := ["math/bits.deBruijn32tab", "math/bits.deBruijn64tab"], apart := false, laid := [("math/bits.deBruijn32tab", laid_math_bits_deBruijn32tab), ("math/bits.deBruijn64tab", laid_math_bits_deBruijn64tab)] }
def FnBrakesSaid : Prop := fnBrakesRow.holds Tryd.pinned (OpenSpec.ofChange fnBrakesSpec)

/-- ITS FALSE NEIGHBOUR: 'it returns false'. Refute it at one input. -/
def fnBrakesWrong : ChangeSpec := { name := "fnBrakes", fn := fun _ => fun
  | [d] => { results := [.lit (.bool false)], args := [d] }
  | _ => none }
def FnBrakesWrongFalsely : Prop := fnBrakesRow.holds Tryd.pinned (OpenSpec.ofChange fnBrakesWrong)

/-- 'laws.FnLoads': WHATEVER THE INPUT: true; the input reads as it did. -/
def fnLoadsSpec : ChangeSpec := { name := "fnLoads", fn := fun _ => fun
  | [d] => { results := [.lit (.bool true)], args := [d] }
  | _ => none }
def fnLoadsRow : OpenClaim := { program := "ythmoogkllpcebaadoor", sum := "e00c1a90ed71a09a5b07e70b52c5d38bc398cad950c17aa917ebfa79efe1417f", func := "loop.example/g00935/laws.FnLoads", spec := "fnLoads", unfollowed := true, recurses := true, named := ["math/bits.deBruijn32tab", "math/bits.deBruijn64tab"], apart := false, laid := [("math/bits.deBruijn32tab", laid_math_bits_deBruijn32tab), ("math/bits.deBruijn64tab", laid_math_bits_deBruijn64tab)] }
def FnLoadsSaid : Prop := fnLoadsRow.holds Tryd.pinned (OpenSpec.ofChange fnLoadsSpec)

/-- ITS FALSE NEIGHBOUR: 'it returns false'. Refute it at one input. -/
def fnLoadsWrong : ChangeSpec := { name := "fnLoads", fn := fun _ => fun
  | [d] => { results := [.lit (.bool false)], args := [d] }
  | _ => none }
def FnLoadsWrongFalsely : Prop := fnLoadsRow.holds Tryd.pinned (OpenSpec.ofChange fnLoadsWrong)

/-- 'laws.FnExactBrakeSpeeds': WHATEVER THE INPUT: true; the input reads as it did. -/
def fnExactBrakeSpeedsSpec : ChangeSpec := { name := "fnExactBrakeSpeeds", fn := fun _ => fun
  | [d1, d2] => { results := [.lit (.bool true)], args := [d1, d2] }
  | _ => none }
def fnExactBrakeSpeedsRow : OpenClaim := { program := "ythmoogkllpcebaadoor", sum := "e00c1a90ed71a09a5b07e70b52c5d38bc398cad950c17aa917ebfa79efe1417f", func := "loop.example/g00935/laws.FnExactBrakeSpeeds", spec := "fnExactBrakeSpeeds", unfollowed := true, recurses := true, named := ["math/bits.deBruijn32tab", "math/bits.deBruijn64tab"], apart := false, laid := [("math/bits.deBruijn32tab", laid_math_bits_deBruijn32tab), ("math/bits.deBruijn64tab", laid_math_bits_deBruijn64tab)] }
def FnExactBrakeSpeedsSaid : Prop := fnExactBrakeSpeedsRow.holds Tryd.pinned (OpenSpec.ofChange fnExactBrakeSpeedsSpec)

/-- ITS FALSE NEIGHBOUR: 'it returns false'. Refute it at one input. -/
def fnExactBrakeSpeedsWrong : ChangeSpec := { name := "fnExactBrakeSpeeds", fn := fun _ => fun
  | [d1, d2] => { results := [.lit (.bool false)], args := [d1, d2] }
  | _ => none }
def FnExactBrakeSpeedsWrongFalsely : Prop := fnExactBrakeSpeedsRow.holds Tryd.pinned (OpenSpec.ofChange fnExactBrakeSpeedsWrong)

/-- 'laws.FnExactBrakeWay': WHATEVER THE INPUT: true; the input reads as it did. -/
def fnExactBrakeWaySpec : ChangeSpec := { name := "fnExactBrakeWay", fn := fun _ => fun
  | [d1, d2] => { results := [.lit (.bool true)], args := [d1, d2] }
  | _ => none }
def fnExactBrakeWayRow : OpenClaim := { program := "ythmoogkllpcebaadoor", sum := "e00c1a90ed71a09a5b07e70b52c5d38bc398cad950c17aa917ebfa79efe1417f", func := "loop.example/g00935/laws.FnExactBrakeWay", spec := "fnExactBrakeWay", unfollowed := true, recurses := true, named := ["math/bits.deBruijn32tab", "math/bits.deBruijn64tab"], apart := false, laid := [("math/bits.deBruijn32tab", laid_math_bits_deBruijn32tab), ("math/bits.deBruijn64tab", laid_math_bits_deBruijn64tab)] }
def FnExactBrakeWaySaid : Prop := fnExactBrakeWayRow.holds Tryd.pinned (OpenSpec.ofChange fnExactBrakeWaySpec)

/-- ITS FALSE NEIGHBOUR: 'it returns false'. Refute it at one input. -/
def fnExactBrakeWayWrong : ChangeSpec := { name := "fnExactBrakeWay", fn := fun _ => fun
  | [d1, d2] => { results := [.lit (.bool false)], args := [d1, d2] }
  | _ => none }
def FnExactBrakeWayWrongFalsely : Prop := fnExactBrakeWayRow.holds Tryd.pinned (OpenSpec.ofChange fnExactBrakeWayWrong)

/-- 'laws.FnExactWayWithout': WHATEVER THE INPUT: true; the input reads as it did. -/
def fnExactWayWithoutSpec : ChangeSpec := { name := "fnExactWayWithout", fn := fun _ => fun
  | [d1, d2, d3] => { results := [.lit (.bool true)], args := [d1, d2, d3] }
  | _ => none }
def fnExactWayWithoutRow : OpenClaim := { program := "ythmoogkllpcebaadoor", sum := "e00c1a90ed71a09a5b07e70b52c5d38bc398cad950c17aa917ebfa79efe1417f", func := "loop.example/g00935/laws.FnExactWayWithout", spec := "fnExactWayWithout", unfollowed := true, recurses := true, named := ["math/bits.deBruijn32tab", "math/bits.deBruijn64tab"], apart := false, laid := [("math/bits.deBruijn32tab", laid_math_bits_deBruijn32tab), ("math/bits.deBruijn64tab", laid_math_bits_deBruijn64tab)] }
def FnExactWayWithoutSaid : Prop := fnExactWayWithoutRow.holds Tryd.pinned (OpenSpec.ofChange fnExactWayWithoutSpec)

/-- ITS FALSE NEIGHBOUR: 'it returns false'. Refute it at one input. -/
def fnExactWayWithoutWrong : ChangeSpec := { name := "fnExactWayWithout", fn := fun _ => fun
  | [d1, d2, d3] => { results := [.lit (.bool false)], args := [d1, d2, d3] }
  | _ => none }
def FnExactWayWithoutWrongFalsely : Prop := fnExactWayWithoutRow.holds Tryd.pinned (OpenSpec.ofChange fnExactWayWithoutWrong)

/-- 'laws.FnExactWorstLoss': WHATEVER THE INPUT: true; the input reads as it did. -/
def fnExactWorstLossSpec : ChangeSpec := { name := "fnExactWorstLoss", fn := fun _ => fun
  | [d1, d2] => { results := [.lit (.bool true)], args := [d1, d2] }
  | _ => none }
def fnExactWorstLossRow : OpenClaim := { program := "ythmoogkllpcebaadoor", sum := "e00c1a90ed71a09a5b07e70b52c5d38bc398cad950c17aa917ebfa79efe1417f", func := "loop.example/g00935/laws.FnExactWorstLoss", spec := "fnExactWorstLoss", unfollowed := true, recurses := true, named := ["math/bits.deBruijn32tab", "math/bits.deBruijn64tab"], apart := false, laid := [("math/bits.deBruijn32tab", laid_math_bits_deBruijn32tab), ("math/bits.deBruijn64tab", laid_math_bits_deBruijn64tab)] }
def FnExactWorstLossSaid : Prop := fnExactWorstLossRow.holds Tryd.pinned (OpenSpec.ofChange fnExactWorstLossSpec)

/-- ITS FALSE NEIGHBOUR: 'it returns false'. Refute it at one input. -/
def fnExactWorstLossWrong : ChangeSpec := { name := "fnExactWorstLoss", fn := fun _ => fun
  | [d1, d2] => { results := [.lit (.bool false)], args := [d1, d2] }
  | _ => none }
def FnExactWorstLossWrongFalsely : Prop := fnExactWorstLossRow.holds Tryd.pinned (OpenSpec.ofChange fnExactWorstLossWrong)

/-- 'laws.FnExactFewestBrakes': WHATEVER THE INPUT: true; the input reads as it did. -/
def fnExactFewestBrakesSpec : ChangeSpec := { name := "fnExactFewestBrakes", fn := fun _ => fun
  | [d1, d2, d3] => { results := [.lit (.bool true)], args := [d1, d2, d3] }
  | _ => none }
def fnExactFewestBrakesRow : OpenClaim := { program := "ythmoogkllpcebaadoor", sum := "e00c1a90ed71a09a5b07e70b52c5d38bc398cad950c17aa917ebfa79efe1417f", func := "loop.example/g00935/laws.FnExactFewestBrakes", spec := "fnExactFewestBrakes", unfollowed := true, recurses := true, named := ["math/bits.deBruijn32tab", "math/bits.deBruijn64tab"], apart := false, laid := [("math/bits.deBruijn32tab", laid_math_bits_deBruijn32tab), ("math/bits.deBruijn64tab", laid_math_bits_deBruijn64tab)] }
def FnExactFewestBrakesSaid : Prop := fnExactFewestBrakesRow.holds Tryd.pinned (OpenSpec.ofChange fnExactFewestBrakesSpec)

/-- ITS FALSE NEIGHBOUR: 'it returns false'. Refute it at one input. -/
def fnExactFewestBrakesWrong : ChangeSpec := { name := "fnExactFewestBrakes", fn := fun _ => fun
  | [d1, d2, d3] => { results := [.lit (.bool false)], args := [d1, d2, d3] }
  | _ => none }
def FnExactFewestBrakesWrongFalsely : Prop := fnExactFewestBrakesRow.holds Tryd.pinned (OpenSpec.ofChange fnExactFewestBrakesWrong)

/-- 'laws.FnExactSafeSpeed': WHATEVER THE INPUT: true; the input reads as it did. -/
def fnExactSafeSpeedSpec : ChangeSpec := { name := "fnExactSafeSpeed", fn := fun _ => fun
  | [d1, d2] => { results := [.lit (.bool true)], args := [d1, d2] }
  | _ => none }
def fnExactSafeSpeedRow : OpenClaim := { program := "ythmoogkllpcebaadoor", sum := "e00c1a90ed71a09a5b07e70b52c5d38bc398cad950c17aa917ebfa79efe1417f", func := "loop.example/g00935/laws.FnExactSafeSpeed", spec := "fnExactSafeSpeed", unfollowed := true, recurses := true, named := ["math/bits.deBruijn32tab", "math/bits.deBruijn64tab"], apart := false, laid := [("math/bits.deBruijn32tab", laid_math_bits_deBruijn32tab), ("math/bits.deBruijn64tab", laid_math_bits_deBruijn64tab)] }
def FnExactSafeSpeedSaid : Prop := fnExactSafeSpeedRow.holds Tryd.pinned (OpenSpec.ofChange fnExactSafeSpeedSpec)

/-- ITS FALSE NEIGHBOUR: 'it returns false'. Refute it at one input. -/
def fnExactSafeSpeedWrong : ChangeSpec := { name := "fnExactSafeSpeed", fn := fun _ => fun
  | [d1, d2] => { results := [.lit (.bool false)], args := [d1, d2] }
  | _ => none }
def FnExactSafeSpeedWrongFalsely : Prop := fnExactSafeSpeedRow.holds Tryd.pinned (OpenSpec.ofChange fnExactSafeSpeedWrong)

/-- 'laws.FnExactHoldsStill': WHATEVER THE INPUT: true; the input reads as it did. -/
def fnExactHoldsStillSpec : ChangeSpec := { name := "fnExactHoldsStill", fn := fun _ => fun
  | [d] => { results := [.lit (.bool true)], args := [d] }
  | _ => none }
def fnExactHoldsStillRow : OpenClaim := { program := "ythmoogkllpcebaadoor", sum := "e00c1a90ed71a09a5b07e70b52c5d38bc398cad950c17aa917ebfa79efe1417f", func := "loop.example/g00935/laws.FnExactHoldsStill", spec := "fnExactHoldsStill", unfollowed := true, recurses := true, named := ["math/bits.deBruijn32tab", "math/bits.deBruijn64tab"], apart := false, laid := [("math/bits.deBruijn32tab", laid_math_bits_deBruijn32tab), ("math/bits.deBruijn64tab", laid_math_bits_deBruijn64tab)] }
def FnExactHoldsStillSaid : Prop := fnExactHoldsStillRow.holds Tryd.pinned (OpenSpec.ofChange fnExactHoldsStillSpec)

/-- ITS FALSE NEIGHBOUR: 'it returns false'. Refute it at one input. -/
def fnExactHoldsStillWrong : ChangeSpec := { name := "fnExactHoldsStill", fn := fun _ => fun
  | [d] => { results := [.lit (.bool false)], args := [d] }
  | _ => none }
def FnExactHoldsStillWrongFalsely : Prop := fnExactHoldsStillRow.holds Tryd.pinned (OpenSpec.ofChange fnExactHoldsStillWrong)

/-- 'laws.FnExactWorstPull': WHATEVER THE INPUT: true; the input reads as it did. -/
def fnExactWorstPullSpec : ChangeSpec := { name := "fnExactWorstPull", fn := fun _ => fun
  | [d1, d2, d3, d4] => { results := [.lit (.bool true)], args := [d1, d2, d3, d4] }
  | _ => none }
def fnExactWorstPullRow : OpenClaim := { program := "ythmoogkllpcebaadoor", sum := "e00c1a90ed71a09a5b07e70b52c5d38bc398cad950c17aa917ebfa79efe1417f", func := "loop.example/g00935/laws.FnExactWorstPull", spec := "fnExactWorstPull", unfollowed := true, recurses := true, named := ["math/bits.deBruijn32tab", "math/bits.deBruijn64tab"], apart := false, laid := [("math/bits.deBruijn32tab", laid_math_bits_deBruijn32tab), ("math/bits.deBruijn64tab", laid_math_bits_deBruijn64tab)] }
def FnExactWorstPullSaid : Prop := fnExactWorstPullRow.holds Tryd.pinned (OpenSpec.ofChange fnExactWorstPullSpec)

/-- ITS FALSE NEIGHBOUR: 'it returns false'. Refute it at one input. -/
def fnExactWorstPullWrong : ChangeSpec := { name := "fnExactWorstPull", fn := fun _ => fun
  | [d1, d2, d3, d4] => { results := [.lit (.bool false)], args := [d1, d2, d3, d4] }
  | _ => none }
def FnExactWorstPullWrongFalsely : Prop := fnExactWorstPullRow.holds Tryd.pinned (OpenSpec.ofChange fnExactWorstPullWrong)

/- THE SECOND FORM. 'bulk': how many values and letters a reading holds, each counted each time it is reached (what is shared counts as often as it is met; a slice's spare places count too). A statement '..UptoSaid' is the law's where the arguments, and the package variables that the reading takes, are together of bulk at most 1048576: NARROWER than '..Said'. Prove '..Said' where nothing that the law and all that it calls make is longer than what came in: it says more and counts as full. Else prove '..UptoSaid'. A law counts once. -/
mutual
def uptoBulk {H : Type} : DataW H → Nat
  | .lit (.string bytes) => bytes.length + 1
  | .lit _ => 1
  | .nil => 1
  | .ptr d => uptoBulk d + 1
  | .slice elems spare => uptoBulkAll elems + uptoBulkAll spare + 1
  | .agg parts => uptoBulkAll parts + 1
  | .iface _ d => uptoBulk d + 1
  | .map entries => uptoBulkEntries entries + 1
  | .held _ => 1
def uptoBulkAll {H : Type} : List (DataW H) → Nat
  | [] => 0
  | d :: r => uptoBulk d + uptoBulkAll r
def uptoBulkEntries {H : Type} : List (Lit × DataW H) → Nat
  | [] => 0
  | x :: r => uptoBulkEntry x + uptoBulkEntries r
def uptoBulkEntry {H : Type} : Lit × DataW H → Nat
  | (.string bytes, d) => bytes.length + uptoBulk d + 1
  | (_, d) => uptoBulk d + 1
 end
def uptoSmall : (H : Type) → List (DataW H) → Bool := fun _ ds => decide (uptoBulkAll ds ≤ 1048576)
def OpenSpec.upto (s : _root_.Go.ChangeSpec) : _root_.Go.OpenSpec := { _root_.Go.OpenSpec.ofChange s with cond := some uptoSmall }

/-- 'laws.FnBrakes', WHERE WHAT IT READS IS OF BULK AT MOST 1048576: true; the input reads as it did. -/
def fnBrakesUptoRow : OpenClaim := { program := "ythmoogkllpcebaadoor", sum := "e00c1a90ed71a09a5b07e70b52c5d38bc398cad950c17aa917ebfa79efe1417f", func := "loop.example/g00935/laws.FnBrakes", spec := "fnBrakes", unfollowed := true, recurses := true, named := ["math/bits.deBruijn32tab", "math/bits.deBruijn64tab"], apart := false, laid := [("math/bits.deBruijn32tab", laid_math_bits_deBruijn32tab), ("math/bits.deBruijn64tab", laid_math_bits_deBruijn64tab)], narrowed := true }
def FnBrakesUptoSaid : Prop := fnBrakesUptoRow.holds Tryd.pinned (OpenSpec.upto fnBrakesSpec)

/-- 'laws.FnLoads', WHERE WHAT IT READS IS OF BULK AT MOST 1048576: true; the input reads as it did. -/
def fnLoadsUptoRow : OpenClaim := { program := "ythmoogkllpcebaadoor", sum := "e00c1a90ed71a09a5b07e70b52c5d38bc398cad950c17aa917ebfa79efe1417f", func := "loop.example/g00935/laws.FnLoads", spec := "fnLoads", unfollowed := true, recurses := true, named := ["math/bits.deBruijn32tab", "math/bits.deBruijn64tab"], apart := false, laid := [("math/bits.deBruijn32tab", laid_math_bits_deBruijn32tab), ("math/bits.deBruijn64tab", laid_math_bits_deBruijn64tab)], narrowed := true }
def FnLoadsUptoSaid : Prop := fnLoadsUptoRow.holds Tryd.pinned (OpenSpec.upto fnLoadsSpec)

/-- 'laws.FnExactBrakeSpeeds', WHERE WHAT IT READS IS OF BULK AT MOST 1048576: true; the input reads as it did. -/
def fnExactBrakeSpeedsUptoRow : OpenClaim := { program := "ythmoogkllpcebaadoor", sum := "e00c1a90ed71a09a5b07e70b52c5d38bc398cad950c17aa917ebfa79efe1417f", func := "loop.example/g00935/laws.FnExactBrakeSpeeds", spec := "fnExactBrakeSpeeds", unfollowed := true, recurses := true, named := ["math/bits.deBruijn32tab", "math/bits.deBruijn64tab"], apart := false, laid := [("math/bits.deBruijn32tab", laid_math_bits_deBruijn32tab), ("math/bits.deBruijn64tab", laid_math_bits_deBruijn64tab)], narrowed := true }
def FnExactBrakeSpeedsUptoSaid : Prop := fnExactBrakeSpeedsUptoRow.holds Tryd.pinned (OpenSpec.upto fnExactBrakeSpeedsSpec)

/-- 'laws.FnExactBrakeWay', WHERE WHAT IT READS IS OF BULK AT MOST 1048576: true; the input reads as it did. -/
def fnExactBrakeWayUptoRow : OpenClaim := { program := "ythmoogkllpcebaadoor", sum := "e00c1a90ed71a09a5b07e70b52c5d38bc398cad950c17aa917ebfa79efe1417f", func := "loop.example/g00935/laws.FnExactBrakeWay", spec := "fnExactBrakeWay", unfollowed := true, recurses := true, named := ["math/bits.deBruijn32tab", "math/bits.deBruijn64tab"], apart := false, laid := [("math/bits.deBruijn32tab", laid_math_bits_deBruijn32tab), ("math/bits.deBruijn64tab", laid_math_bits_deBruijn64tab)], narrowed := true }
def FnExactBrakeWayUptoSaid : Prop := fnExactBrakeWayUptoRow.holds Tryd.pinned (OpenSpec.upto fnExactBrakeWaySpec)

/-- 'laws.FnExactWayWithout', WHERE WHAT IT READS IS OF BULK AT MOST 1048576: true; the input reads as it did. -/
def fnExactWayWithoutUptoRow : OpenClaim := { program := "ythmoogkllpcebaadoor", sum := "e00c1a90ed71a09a5b07e70b52c5d38bc398cad950c17aa917ebfa79efe1417f", func := "loop.example/g00935/laws.FnExactWayWithout", spec := "fnExactWayWithout", unfollowed := true, recurses := true, named := ["math/bits.deBruijn32tab", "math/bits.deBruijn64tab"], apart := false, laid := [("math/bits.deBruijn32tab", laid_math_bits_deBruijn32tab), ("math/bits.deBruijn64tab", laid_math_bits_deBruijn64tab)], narrowed := true }
def FnExactWayWithoutUptoSaid : Prop := fnExactWayWithoutUptoRow.holds Tryd.pinned (OpenSpec.upto fnExactWayWithoutSpec)

/-- 'laws.FnExactWorstLoss', WHERE WHAT IT READS IS OF BULK AT MOST 1048576: true; the input reads as it did. -/
def fnExactWorstLossUptoRow : OpenClaim := { program := "ythmoogkllpcebaadoor", sum := "e00c1a90ed71a09a5b07e70b52c5d38bc398cad950c17aa917ebfa79efe1417f", func := "loop.example/g00935/laws.FnExactWorstLoss", spec := "fnExactWorstLoss", unfollowed := true, recurses := true, named := ["math/bits.deBruijn32tab", "math/bits.deBruijn64tab"], apart := false, laid := [("math/bits.deBruijn32tab", laid_math_bits_deBruijn32tab), ("math/bits.deBruijn64tab", laid_math_bits_deBruijn64tab)], narrowed := true }
def FnExactWorstLossUptoSaid : Prop := fnExactWorstLossUptoRow.holds Tryd.pinned (OpenSpec.upto fnExactWorstLossSpec)

/-- 'laws.FnExactFewestBrakes', WHERE WHAT IT READS IS OF BULK AT MOST 1048576: true; the input reads as it did. -/
def fnExactFewestBrakesUptoRow : OpenClaim := { program := "ythmoogkllpcebaadoor", sum := "e00c1a90ed71a09a5b07e70b52c5d38bc398cad950c17aa917ebfa79efe1417f", func := "loop.example/g00935/laws.FnExactFewestBrakes", spec := "fnExactFewestBrakes", unfollowed := true, recurses := true, named := ["math/bits.deBruijn32tab", "math/bits.deBruijn64tab"], apart := false, laid := [("math/bits.deBruijn32tab", laid_math_bits_deBruijn32tab), ("math/bits.deBruijn64tab", laid_math_bits_deBruijn64tab)], narrowed := true }
def FnExactFewestBrakesUptoSaid : Prop := fnExactFewestBrakesUptoRow.holds Tryd.pinned (OpenSpec.upto fnExactFewestBrakesSpec)

/-- 'laws.FnExactSafeSpeed', WHERE WHAT IT READS IS OF BULK AT MOST 1048576: true; the input reads as it did. -/
def fnExactSafeSpeedUptoRow : OpenClaim := { program := "ythmoogkllpcebaadoor", sum := "e00c1a90ed71a09a5b07e70b52c5d38bc398cad950c17aa917ebfa79efe1417f", func := "loop.example/g00935/laws.FnExactSafeSpeed", spec := "fnExactSafeSpeed", unfollowed := true, recurses := true, named := ["math/bits.deBruijn32tab", "math/bits.deBruijn64tab"], apart := false, laid := [("math/bits.deBruijn32tab", laid_math_bits_deBruijn32tab), ("math/bits.deBruijn64tab", laid_math_bits_deBruijn64tab)], narrowed := true }
def FnExactSafeSpeedUptoSaid : Prop := fnExactSafeSpeedUptoRow.holds Tryd.pinned (OpenSpec.upto fnExactSafeSpeedSpec)

/-- 'laws.FnExactHoldsStill', WHERE WHAT IT READS IS OF BULK AT MOST 1048576: true; the input reads as it did. -/
def fnExactHoldsStillUptoRow : OpenClaim := { program := "ythmoogkllpcebaadoor", sum := "e00c1a90ed71a09a5b07e70b52c5d38bc398cad950c17aa917ebfa79efe1417f", func := "loop.example/g00935/laws.FnExactHoldsStill", spec := "fnExactHoldsStill", unfollowed := true, recurses := true, named := ["math/bits.deBruijn32tab", "math/bits.deBruijn64tab"], apart := false, laid := [("math/bits.deBruijn32tab", laid_math_bits_deBruijn32tab), ("math/bits.deBruijn64tab", laid_math_bits_deBruijn64tab)], narrowed := true }
def FnExactHoldsStillUptoSaid : Prop := fnExactHoldsStillUptoRow.holds Tryd.pinned (OpenSpec.upto fnExactHoldsStillSpec)

/-- 'laws.FnExactWorstPull', WHERE WHAT IT READS IS OF BULK AT MOST 1048576: true; the input reads as it did. -/
def fnExactWorstPullUptoRow : OpenClaim := { program := "ythmoogkllpcebaadoor", sum := "e00c1a90ed71a09a5b07e70b52c5d38bc398cad950c17aa917ebfa79efe1417f", func := "loop.example/g00935/laws.FnExactWorstPull", spec := "fnExactWorstPull", unfollowed := true, recurses := true, named := ["math/bits.deBruijn32tab", "math/bits.deBruijn64tab"], apart := false, laid := [("math/bits.deBruijn32tab", laid_math_bits_deBruijn32tab), ("math/bits.deBruijn64tab", laid_math_bits_deBruijn64tab)], narrowed := true }
def FnExactWorstPullUptoSaid : Prop := fnExactWorstPullUptoRow.holds Tryd.pinned (OpenSpec.upto fnExactWorstPullSpec)

end Rows
end Go.Proofs.YthmoogkllpcebaaDoor
