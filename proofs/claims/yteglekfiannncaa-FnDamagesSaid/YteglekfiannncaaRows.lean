/-
  No cell of these rows narrows 'for every input' (looked for: loops, veiled, ifaces, maps, wideKeys, modest, calm, conditions, laid).
  DERIVED. THE GIVEN ROWS OF THIS SEAT. 12 by the template 'for every input the law returns true; each argument reads behind the call as it read before'; 0 by the template 'total and deterministic' (their statements: YteglekfiannncaaTotals.lean).
  GIVEN WITH THE SEED: the statements are not yours to turn. If you find one false, say at which input.
  Laid BY PROGRAM, IN A SANDBOX (cutbox-rows.mjs): the forced cells as the released guide's own fill.sh prints them over the translation 14db453286db3085… (all of the seat's roots in one cut). By AI agents, Wed Nov 11 2026. No macro, syntax, notation, axiom, sorry.
-/
import Derived.Test.YteglekfiannncaaChecked
import GoSem.Claim
import GoSem.ClaimJoined
import GoSem.ClaimMapViews
import Derived.JoinedTies
import Derived.KernelRfl
namespace Go.Proofs.Yteglekfiannncaa
/- THE CELL 'sum', in the pinned program and in every row, IS THE sha256 OF THE DUMP (.gsa) THAT YteglekfiannncaaProg.lean LOADS. Nothing in Lean hashes anything: it is a label: what it is worth is what the hold of that sum in a sandbox is worth. -/
noncomputable def Try.pinned : Pinned := { name := "yteglekfiannncaa", sum := "14db453286db3085fec90c1f0b06e2d6c9126986adbedf07448d07fa29330f5c", checked := Try.checked }
namespace Rows
def none {H : Type} : Left H := { results := [], args := [] }

/-- 'laws.FnClearances': WHATEVER THE INPUT: true; the input reads as it did. -/
def fnClearancesSpec : ChangeSpec := { name := "fnClearances", fn := fun _ => fun
  | [d] => { results := [.lit (.bool true)], args := [d] }
  | _ => none }
def fnClearancesRow : OpenClaim := { program := "yteglekfiannncaa", sum := "14db453286db3085fec90c1f0b06e2d6c9126986adbedf07448d07fa29330f5c", func := "loop.example/g00935/laws.FnClearances", spec := "fnClearances", recurses := true, apart := false }
def FnClearancesSaid : Prop := fnClearancesRow.holds Try.pinned (OpenSpec.ofChange fnClearancesSpec)

/-- ITS FALSE NEIGHBOUR: 'it returns false'. Refute it at one input. -/
def fnClearancesWrong : ChangeSpec := { name := "fnClearances", fn := fun _ => fun
  | [d] => { results := [.lit (.bool false)], args := [d] }
  | _ => none }
def FnClearancesWrongFalsely : Prop := fnClearancesRow.holds Try.pinned (OpenSpec.ofChange fnClearancesWrong)

/-- 'laws.FnRopes': WHATEVER THE INPUT: true; the input reads as it did. -/
def fnRopesSpec : ChangeSpec := { name := "fnRopes", fn := fun _ => fun
  | [d] => { results := [.lit (.bool true)], args := [d] }
  | _ => none }
def fnRopesRow : OpenClaim := { program := "yteglekfiannncaa", sum := "14db453286db3085fec90c1f0b06e2d6c9126986adbedf07448d07fa29330f5c", func := "loop.example/g00935/laws.FnRopes", spec := "fnRopes", apart := false }
def FnRopesSaid : Prop := fnRopesRow.holds Try.pinned (OpenSpec.ofChange fnRopesSpec)

/-- ITS FALSE NEIGHBOUR: 'it returns false'. Refute it at one input. -/
def fnRopesWrong : ChangeSpec := { name := "fnRopes", fn := fun _ => fun
  | [d] => { results := [.lit (.bool false)], args := [d] }
  | _ => none }
def FnRopesWrongFalsely : Prop := fnRopesRow.holds Try.pinned (OpenSpec.ofChange fnRopesWrong)

/-- 'laws.FnDamages': WHATEVER THE INPUT: true; the input reads as it did. -/
def fnDamagesSpec : ChangeSpec := { name := "fnDamages", fn := fun _ => fun
  | [d] => { results := [.lit (.bool true)], args := [d] }
  | _ => none }
def fnDamagesRow : OpenClaim := { program := "yteglekfiannncaa", sum := "14db453286db3085fec90c1f0b06e2d6c9126986adbedf07448d07fa29330f5c", func := "loop.example/g00935/laws.FnDamages", spec := "fnDamages", inPlace := ["slices.overlaps[loop.example/g00935/impl.Damage]"], unfollowed := true, recurses := true, apart := false }
def FnDamagesSaid : Prop := fnDamagesRow.holds Try.pinned (OpenSpec.ofChange fnDamagesSpec)

/-- ITS FALSE NEIGHBOUR: 'it returns false'. Refute it at one input. -/
def fnDamagesWrong : ChangeSpec := { name := "fnDamages", fn := fun _ => fun
  | [d] => { results := [.lit (.bool false)], args := [d] }
  | _ => none }
def FnDamagesWrongFalsely : Prop := fnDamagesRow.holds Try.pinned (OpenSpec.ofChange fnDamagesWrong)

/-- 'laws.FnExactIsRope': WHATEVER THE INPUT: true; the input reads as it did. -/
def fnExactIsRopeSpec : ChangeSpec := { name := "fnExactIsRope", fn := fun _ => fun
  | [d] => { results := [.lit (.bool true)], args := [d] }
  | _ => none }
def fnExactIsRopeRow : OpenClaim := { program := "yteglekfiannncaa", sum := "14db453286db3085fec90c1f0b06e2d6c9126986adbedf07448d07fa29330f5c", func := "loop.example/g00935/laws.FnExactIsRope", spec := "fnExactIsRope", apart := false }
def FnExactIsRopeSaid : Prop := fnExactIsRopeRow.holds Try.pinned (OpenSpec.ofChange fnExactIsRopeSpec)

/-- ITS FALSE NEIGHBOUR: 'it returns false'. Refute it at one input. -/
def fnExactIsRopeWrong : ChangeSpec := { name := "fnExactIsRope", fn := fun _ => fun
  | [d] => { results := [.lit (.bool false)], args := [d] }
  | _ => none }
def FnExactIsRopeWrongFalsely : Prop := fnExactIsRopeRow.holds Try.pinned (OpenSpec.ofChange fnExactIsRopeWrong)

/-- 'laws.FnExactSagAt': WHATEVER THE INPUT: true; the input reads as it did. -/
def fnExactSagAtSpec : ChangeSpec := { name := "fnExactSagAt", fn := fun _ => fun
  | [d1, d2, d3] => { results := [.lit (.bool true)], args := [d1, d2, d3] }
  | _ => none }
def fnExactSagAtRow : OpenClaim := { program := "yteglekfiannncaa", sum := "14db453286db3085fec90c1f0b06e2d6c9126986adbedf07448d07fa29330f5c", func := "loop.example/g00935/laws.FnExactSagAt", spec := "fnExactSagAt", apart := false }
def FnExactSagAtSaid : Prop := fnExactSagAtRow.holds Try.pinned (OpenSpec.ofChange fnExactSagAtSpec)

/-- ITS FALSE NEIGHBOUR: 'it returns false'. Refute it at one input. -/
def fnExactSagAtWrong : ChangeSpec := { name := "fnExactSagAt", fn := fun _ => fun
  | [d1, d2, d3] => { results := [.lit (.bool false)], args := [d1, d2, d3] }
  | _ => none }
def FnExactSagAtWrongFalsely : Prop := fnExactSagAtRow.holds Try.pinned (OpenSpec.ofChange fnExactSagAtWrong)

/-- 'laws.FnExactLoadedSag': WHATEVER THE INPUT: true; the input reads as it did. -/
def fnExactLoadedSagSpec : ChangeSpec := { name := "fnExactLoadedSag", fn := fun _ => fun
  | [d1, d2, d3, d4] => { results := [.lit (.bool true)], args := [d1, d2, d3, d4] }
  | _ => none }
def fnExactLoadedSagRow : OpenClaim := { program := "yteglekfiannncaa", sum := "14db453286db3085fec90c1f0b06e2d6c9126986adbedf07448d07fa29330f5c", func := "loop.example/g00935/laws.FnExactLoadedSag", spec := "fnExactLoadedSag", apart := false }
def FnExactLoadedSagSaid : Prop := fnExactLoadedSagRow.holds Try.pinned (OpenSpec.ofChange fnExactLoadedSagSpec)

/-- ITS FALSE NEIGHBOUR: 'it returns false'. Refute it at one input. -/
def fnExactLoadedSagWrong : ChangeSpec := { name := "fnExactLoadedSag", fn := fun _ => fun
  | [d1, d2, d3, d4] => { results := [.lit (.bool false)], args := [d1, d2, d3, d4] }
  | _ => none }
def FnExactLoadedSagWrongFalsely : Prop := fnExactLoadedSagRow.holds Try.pinned (OpenSpec.ofChange fnExactLoadedSagWrong)

/-- 'laws.FnExactGreatestSag': WHATEVER THE INPUT: true; the input reads as it did. -/
def fnExactGreatestSagSpec : ChangeSpec := { name := "fnExactGreatestSag", fn := fun _ => fun
  | [d1, d2] => { results := [.lit (.bool true)], args := [d1, d2] }
  | _ => none }
def fnExactGreatestSagRow : OpenClaim := { program := "yteglekfiannncaa", sum := "14db453286db3085fec90c1f0b06e2d6c9126986adbedf07448d07fa29330f5c", func := "loop.example/g00935/laws.FnExactGreatestSag", spec := "fnExactGreatestSag", apart := false }
def FnExactGreatestSagSaid : Prop := fnExactGreatestSagRow.holds Try.pinned (OpenSpec.ofChange fnExactGreatestSagSpec)

/-- ITS FALSE NEIGHBOUR: 'it returns false'. Refute it at one input. -/
def fnExactGreatestSagWrong : ChangeSpec := { name := "fnExactGreatestSag", fn := fun _ => fun
  | [d1, d2] => { results := [.lit (.bool false)], args := [d1, d2] }
  | _ => none }
def FnExactGreatestSagWrongFalsely : Prop := fnExactGreatestSagRow.holds Try.pinned (OpenSpec.ofChange fnExactGreatestSagWrong)

/-- 'laws.FnExactIsGround': WHATEVER THE INPUT: true; the input reads as it did. -/
def fnExactIsGroundSpec : ChangeSpec := { name := "fnExactIsGround", fn := fun _ => fun
  | [d1, d2] => { results := [.lit (.bool true)], args := [d1, d2] }
  | _ => none }
def fnExactIsGroundRow : OpenClaim := { program := "yteglekfiannncaa", sum := "14db453286db3085fec90c1f0b06e2d6c9126986adbedf07448d07fa29330f5c", func := "loop.example/g00935/laws.FnExactIsGround", spec := "fnExactIsGround", apart := false }
def FnExactIsGroundSaid : Prop := fnExactIsGroundRow.holds Try.pinned (OpenSpec.ofChange fnExactIsGroundSpec)

/-- ITS FALSE NEIGHBOUR: 'it returns false'. Refute it at one input. -/
def fnExactIsGroundWrong : ChangeSpec := { name := "fnExactIsGround", fn := fun _ => fun
  | [d1, d2] => { results := [.lit (.bool false)], args := [d1, d2] }
  | _ => none }
def FnExactIsGroundWrongFalsely : Prop := fnExactIsGroundRow.holds Try.pinned (OpenSpec.ofChange fnExactIsGroundWrong)

/-- 'laws.FnExactClearanceAt': WHATEVER THE INPUT: true; the input reads as it did. -/
def fnExactClearanceAtSpec : ChangeSpec := { name := "fnExactClearanceAt", fn := fun _ => fun
  | [d1, d2, d3, d4] => { results := [.lit (.bool true)], args := [d1, d2, d3, d4] }
  | _ => none }
def fnExactClearanceAtRow : OpenClaim := { program := "yteglekfiannncaa", sum := "14db453286db3085fec90c1f0b06e2d6c9126986adbedf07448d07fa29330f5c", func := "loop.example/g00935/laws.FnExactClearanceAt", spec := "fnExactClearanceAt", apart := false }
def FnExactClearanceAtSaid : Prop := fnExactClearanceAtRow.holds Try.pinned (OpenSpec.ofChange fnExactClearanceAtSpec)

/-- ITS FALSE NEIGHBOUR: 'it returns false'. Refute it at one input. -/
def fnExactClearanceAtWrong : ChangeSpec := { name := "fnExactClearanceAt", fn := fun _ => fun
  | [d1, d2, d3, d4] => { results := [.lit (.bool false)], args := [d1, d2, d3, d4] }
  | _ => none }
def FnExactClearanceAtWrongFalsely : Prop := fnExactClearanceAtRow.holds Try.pinned (OpenSpec.ofChange fnExactClearanceAtWrong)

/-- 'laws.FnExactLowestClearance': WHATEVER THE INPUT: true; the input reads as it did. -/
def fnExactLowestClearanceSpec : ChangeSpec := { name := "fnExactLowestClearance", fn := fun _ => fun
  | [d1, d2, d3] => { results := [.lit (.bool true)], args := [d1, d2, d3] }
  | _ => none }
def fnExactLowestClearanceRow : OpenClaim := { program := "yteglekfiannncaa", sum := "14db453286db3085fec90c1f0b06e2d6c9126986adbedf07448d07fa29330f5c", func := "loop.example/g00935/laws.FnExactLowestClearance", spec := "fnExactLowestClearance", recurses := true, apart := false }
def FnExactLowestClearanceSaid : Prop := fnExactLowestClearanceRow.holds Try.pinned (OpenSpec.ofChange fnExactLowestClearanceSpec)

/-- ITS FALSE NEIGHBOUR: 'it returns false'. Refute it at one input. -/
def fnExactLowestClearanceWrong : ChangeSpec := { name := "fnExactLowestClearance", fn := fun _ => fun
  | [d1, d2, d3] => { results := [.lit (.bool false)], args := [d1, d2, d3] }
  | _ => none }
def FnExactLowestClearanceWrongFalsely : Prop := fnExactLowestClearanceRow.holds Try.pinned (OpenSpec.ofChange fnExactLowestClearanceWrong)

/-- 'laws.FnExactPullFor': WHATEVER THE INPUT: true; the input reads as it did. -/
def fnExactPullForSpec : ChangeSpec := { name := "fnExactPullFor", fn := fun _ => fun
  | [d1, d2, d3, d4] => { results := [.lit (.bool true)], args := [d1, d2, d3, d4] }
  | _ => none }
def fnExactPullForRow : OpenClaim := { program := "yteglekfiannncaa", sum := "14db453286db3085fec90c1f0b06e2d6c9126986adbedf07448d07fa29330f5c", func := "loop.example/g00935/laws.FnExactPullFor", spec := "fnExactPullFor", apart := false }
def FnExactPullForSaid : Prop := fnExactPullForRow.holds Try.pinned (OpenSpec.ofChange fnExactPullForSpec)

/-- ITS FALSE NEIGHBOUR: 'it returns false'. Refute it at one input. -/
def fnExactPullForWrong : ChangeSpec := { name := "fnExactPullFor", fn := fun _ => fun
  | [d1, d2, d3, d4] => { results := [.lit (.bool false)], args := [d1, d2, d3, d4] }
  | _ => none }
def FnExactPullForWrongFalsely : Prop := fnExactPullForRow.holds Try.pinned (OpenSpec.ofChange fnExactPullForWrong)

/-- 'laws.FnExactTowerAngle': WHATEVER THE INPUT: true; the input reads as it did. -/
def fnExactTowerAngleSpec : ChangeSpec := { name := "fnExactTowerAngle", fn := fun _ => fun
  | [d1, d2, d3] => { results := [.lit (.bool true)], args := [d1, d2, d3] }
  | _ => none }
def fnExactTowerAngleRow : OpenClaim := { program := "yteglekfiannncaa", sum := "14db453286db3085fec90c1f0b06e2d6c9126986adbedf07448d07fa29330f5c", func := "loop.example/g00935/laws.FnExactTowerAngle", spec := "fnExactTowerAngle", apart := false }
def FnExactTowerAngleSaid : Prop := fnExactTowerAngleRow.holds Try.pinned (OpenSpec.ofChange fnExactTowerAngleSpec)

/-- ITS FALSE NEIGHBOUR: 'it returns false'. Refute it at one input. -/
def fnExactTowerAngleWrong : ChangeSpec := { name := "fnExactTowerAngle", fn := fun _ => fun
  | [d1, d2, d3] => { results := [.lit (.bool false)], args := [d1, d2, d3] }
  | _ => none }
def FnExactTowerAngleWrongFalsely : Prop := fnExactTowerAngleRow.holds Try.pinned (OpenSpec.ofChange fnExactTowerAngleWrong)

/- THE SECOND FORM. 'bulk': how many values and letters a reading holds, each counted each time it is reached (what is shared counts as often as it is met; a slice's spare places count too). A statement '..UptoSaid' is the law's where the arguments, and the package variables that the reading takes, are together of bulk at most 1048576: NARROWER than '..Said'. Prove '..Said' where nothing that the law and all that it calls make is longer than what came in: it says more and counts as full. Else prove '..UptoSaid'. A law counts once. -/
mutual
def uptoBulk {H : Type} : DataW H → Nat
  | .lit (.string bytes) => bytes.length + 1
  | .lit _ => 1
  | .nil => 1
  | .ptr d => uptoBulk d + 1
  | .slice elems spare => uptoBulkAll elems + uptoBulkAll spare + 1
  | .agg parts => uptoBulkAll parts + 1
  | .iface _ d => uptoBulk d + 1
  | .map entries => uptoBulkEntries entries + 1
  | .held _ => 1
def uptoBulkAll {H : Type} : List (DataW H) → Nat
  | [] => 0
  | d :: r => uptoBulk d + uptoBulkAll r
def uptoBulkEntries {H : Type} : List (Lit × DataW H) → Nat
  | [] => 0
  | x :: r => uptoBulkEntry x + uptoBulkEntries r
def uptoBulkEntry {H : Type} : Lit × DataW H → Nat
  | (.string bytes, d) => bytes.length + uptoBulk d + 1
  | (_, d) => uptoBulk d + 1
 end
def uptoSmall : (H : Type) → List (DataW H) → Bool := fun _ ds => decide (uptoBulkAll ds ≤ 1048576)
def OpenSpec.upto (s : _root_.Go.ChangeSpec) : _root_.Go.OpenSpec := { _root_.Go.OpenSpec.ofChange s with cond := some uptoSmall }

/-- 'laws.FnClearances', WHERE WHAT IT READS IS OF BULK AT MOST 1048576: true; the input reads as it did. -/
def fnClearancesUptoRow : OpenClaim := { program := "yteglekfiannncaa", sum := "14db453286db3085fec90c1f0b06e2d6c9126986adbedf07448d07fa29330f5c", func := "loop.example/g00935/laws.FnClearances", spec := "fnClearances", recurses := true, apart := false, narrowed := true }
def FnClearancesUptoSaid : Prop := fnClearancesUptoRow.holds Try.pinned (OpenSpec.upto fnClearancesSpec)

/-- 'laws.FnRopes', WHERE WHAT IT READS IS OF BULK AT MOST 1048576: true; the input reads as it did. -/
def fnRopesUptoRow : OpenClaim := { program := "yteglekfiannncaa", sum := "14db453286db3085fec90c1f0b06e2d6c9126986adbedf07448d07fa29330f5c", func := "loop.example/g00935/laws.FnRopes", spec := "fnRopes", apart := false, narrowed := true }
def FnRopesUptoSaid : Prop := fnRopesUptoRow.holds Try.pinned (OpenSpec.upto fnRopesSpec)

/-- 'laws.FnDamages', WHERE WHAT IT READS IS OF BULK AT MOST 1048576: true; the input reads as it did. -/
def fnDamagesUptoRow : OpenClaim := { program := "yteglekfiannncaa", sum := "14db453286db3085fec90c1f0b06e2d6c9126986adbedf07448d07fa29330f5c", func := "loop.example/g00935/laws.FnDamages", spec := "fnDamages", inPlace := ["slices.overlaps[loop.example/g00935/impl.Damage]"], unfollowed := true, recurses := true, apart := false, narrowed := true }
def FnDamagesUptoSaid : Prop := fnDamagesUptoRow.holds Try.pinned (OpenSpec.upto fnDamagesSpec)

/-- 'laws.FnExactIsRope', WHERE WHAT IT READS IS OF BULK AT MOST 1048576: true; the input reads as it did. -/
def fnExactIsRopeUptoRow : OpenClaim := { program := "yteglekfiannncaa", sum := "14db453286db3085fec90c1f0b06e2d6c9126986adbedf07448d07fa29330f5c", func := "loop.example/g00935/laws.FnExactIsRope", spec := "fnExactIsRope", apart := false, narrowed := true }
def FnExactIsRopeUptoSaid : Prop := fnExactIsRopeUptoRow.holds Try.pinned (OpenSpec.upto fnExactIsRopeSpec)

/-- 'laws.FnExactSagAt', WHERE WHAT IT READS IS OF BULK AT MOST 1048576: true; the input reads as it did. -/
def fnExactSagAtUptoRow : OpenClaim := { program := "yteglekfiannncaa", sum := "14db453286db3085fec90c1f0b06e2d6c9126986adbedf07448d07fa29330f5c", func := "loop.example/g00935/laws.FnExactSagAt", spec := "fnExactSagAt", apart := false, narrowed := true }
def FnExactSagAtUptoSaid : Prop := fnExactSagAtUptoRow.holds Try.pinned (OpenSpec.upto fnExactSagAtSpec)

/-- 'laws.FnExactLoadedSag', WHERE WHAT IT READS IS OF BULK AT MOST 1048576: true; the input reads as it did. -/
def fnExactLoadedSagUptoRow : OpenClaim := { program := "yteglekfiannncaa", sum := "14db453286db3085fec90c1f0b06e2d6c9126986adbedf07448d07fa29330f5c", func := "loop.example/g00935/laws.FnExactLoadedSag", spec := "fnExactLoadedSag", apart := false, narrowed := true }
def FnExactLoadedSagUptoSaid : Prop := fnExactLoadedSagUptoRow.holds Try.pinned (OpenSpec.upto fnExactLoadedSagSpec)

/-- 'laws.FnExactGreatestSag', WHERE WHAT IT READS IS OF BULK AT MOST 1048576: true; the input reads as it did. -/
def fnExactGreatestSagUptoRow : OpenClaim := { program := "yteglekfiannncaa", sum := "14db453286db3085fec90c1f0b06e2d6c9126986adbedf07448d07fa29330f5c", func := "loop.example/g00935/laws.FnExactGreatestSag", spec := "fnExactGreatestSag", apart := false, narrowed := true }
def FnExactGreatestSagUptoSaid : Prop := fnExactGreatestSagUptoRow.holds Try.pinned (OpenSpec.upto fnExactGreatestSagSpec)

/-- 'laws.FnExactIsGround', WHERE WHAT IT READS IS OF BULK AT MOST 1048576: true; the input reads as it did. -/
def fnExactIsGroundUptoRow : OpenClaim := { program := "yteglekfiannncaa", sum := "14db453286db3085fec90c1f0b06e2d6c9126986adbedf07448d07fa29330f5c", func := "loop.example/g00935/laws.FnExactIsGround", spec := "fnExactIsGround", apart := false, narrowed := true }
def FnExactIsGroundUptoSaid : Prop := fnExactIsGroundUptoRow.holds Try.pinned (OpenSpec.upto fnExactIsGroundSpec)

/-- 'laws.FnExactClearanceAt', WHERE WHAT IT READS IS OF BULK AT MOST 1048576: true; the input reads as it did. -/
def fnExactClearanceAtUptoRow : OpenClaim := { program := "yteglekfiannncaa", sum := "14db453286db3085fec90c1f0b06e2d6c9126986adbedf07448d07fa29330f5c", func := "loop.example/g00935/laws.FnExactClearanceAt", spec := "fnExactClearanceAt", apart := false, narrowed := true }
def FnExactClearanceAtUptoSaid : Prop := fnExactClearanceAtUptoRow.holds Try.pinned (OpenSpec.upto fnExactClearanceAtSpec)

/-- 'laws.FnExactLowestClearance', WHERE WHAT IT READS IS OF BULK AT MOST 1048576: true; the input reads as it did. -/
def fnExactLowestClearanceUptoRow : OpenClaim := { program := "yteglekfiannncaa", sum := "14db453286db3085fec90c1f0b06e2d6c9126986adbedf07448d07fa29330f5c", func := "loop.example/g00935/laws.FnExactLowestClearance", spec := "fnExactLowestClearance", recurses := true, apart := false, narrowed := true }
def FnExactLowestClearanceUptoSaid : Prop := fnExactLowestClearanceUptoRow.holds Try.pinned (OpenSpec.upto fnExactLowestClearanceSpec)

/-- 'laws.FnExactPullFor', WHERE WHAT IT READS IS OF BULK AT MOST 1048576: true; the input reads as it did. -/
def fnExactPullForUptoRow : OpenClaim := { program := "yteglekfiannncaa", sum := "14db453286db3085fec90c1f0b06e2d6c9126986adbedf07448d07fa29330f5c", func := "loop.example/g00935/laws.FnExactPullFor", spec := "fnExactPullFor", apart := false, narrowed := true }
def FnExactPullForUptoSaid : Prop := fnExactPullForUptoRow.holds Try.pinned (OpenSpec.upto fnExactPullForSpec)

/-- 'laws.FnExactTowerAngle', WHERE WHAT IT READS IS OF BULK AT MOST 1048576: true; the input reads as it did. -/
def fnExactTowerAngleUptoRow : OpenClaim := { program := "yteglekfiannncaa", sum := "14db453286db3085fec90c1f0b06e2d6c9126986adbedf07448d07fa29330f5c", func := "loop.example/g00935/laws.FnExactTowerAngle", spec := "fnExactTowerAngle", apart := false, narrowed := true }
def FnExactTowerAngleUptoSaid : Prop := fnExactTowerAngleUptoRow.holds Try.pinned (OpenSpec.upto fnExactTowerAngleSpec)

end Rows
end Go.Proofs.Yteglekfiannncaa
