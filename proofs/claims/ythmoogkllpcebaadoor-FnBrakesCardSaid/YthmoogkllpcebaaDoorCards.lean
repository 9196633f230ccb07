/-
  DERIVED. GIVEN WITH THE SEED: THE CARDS: each row of YthmoogkllpcebaaDoorRows.lean that lists a variable, with what it lists TIED to the program's text (the seventh form; the later family's looks); each row that meets fmt, with fmt's text TOLD by the authors' own Lean function (tested against real Go, not proved from fmt's source: count such statements apart). THE CARD IS WHAT COUNTS. Prove the row's statement (the work); the ties are given (YthmoogkllpcebaaDoorTie.lean); close each card by the builder's one call (the guide's Derived/Test/ToyasCard.lean, 'card_holds'). Laid BY PROGRAM, IN A SANDBOX (cutbox-door.mjs). By AI agents, Wed Nov 11 2026. No macro, syntax, notation, axiom, sorry.
-/
import Derived.Test.YthmoogkllpcebaaDoorRows
import GoSem.ClaimSeven
namespace Go.Proofs.YthmoogkllpcebaaDoor
namespace Rows

/-- THE TIED CARD OF 'laws.FnBrakes'. -/
def fnBrakesCard : Claim7 := { stood := { row := fnBrakesRow, standIns := [], harness := (true, "2f922816bb7beb27fb482cfa9dfff6666c181ce0d52c0f4632fdac164495f257"), looks := false }, kinds := [], alts := [], laidByText := true, laidKinds := [.data, .data], laidTests := true, laidLooks := .later }
def FnBrakesCardSaid : Prop := Claim7.holds Tryd.pinned (.plain (OpenSpec.ofChange fnBrakesSpec)) fnBrakesCard

/-- THE TIED CARD OF 'laws.FnLoads'. -/
def fnLoadsCard : Claim7 := { stood := { row := fnLoadsRow, standIns := [], harness := (true, "2f922816bb7beb27fb482cfa9dfff6666c181ce0d52c0f4632fdac164495f257"), looks := false }, kinds := [], alts := [], laidByText := true, laidKinds := [.data, .data], laidTests := true, laidLooks := .later }
def FnLoadsCardSaid : Prop := Claim7.holds Tryd.pinned (.plain (OpenSpec.ofChange fnLoadsSpec)) fnLoadsCard

/-- THE TIED CARD OF 'laws.FnExactBrakeSpeeds'. -/
def fnExactBrakeSpeedsCard : Claim7 := { stood := { row := fnExactBrakeSpeedsRow, standIns := [], harness := (true, "2f922816bb7beb27fb482cfa9dfff6666c181ce0d52c0f4632fdac164495f257"), looks := false }, kinds := [], alts := [], laidByText := true, laidKinds := [.data, .data], laidTests := true, laidLooks := .later }
def FnExactBrakeSpeedsCardSaid : Prop := Claim7.holds Tryd.pinned (.plain (OpenSpec.ofChange fnExactBrakeSpeedsSpec)) fnExactBrakeSpeedsCard

/-- THE TIED CARD OF 'laws.FnExactBrakeWay'. -/
def fnExactBrakeWayCard : Claim7 := { stood := { row := fnExactBrakeWayRow, standIns := [], harness := (true, "2f922816bb7beb27fb482cfa9dfff6666c181ce0d52c0f4632fdac164495f257"), looks := false }, kinds := [], alts := [], laidByText := true, laidKinds := [.data, .data], laidTests := true, laidLooks := .later }
def FnExactBrakeWayCardSaid : Prop := Claim7.holds Tryd.pinned (.plain (OpenSpec.ofChange fnExactBrakeWaySpec)) fnExactBrakeWayCard

/-- THE TIED CARD OF 'laws.FnExactWayWithout'. -/
def fnExactWayWithoutCard : Claim7 := { stood := { row := fnExactWayWithoutRow, standIns := [], harness := (true, "2f922816bb7beb27fb482cfa9dfff6666c181ce0d52c0f4632fdac164495f257"), looks := false }, kinds := [], alts := [], laidByText := true, laidKinds := [.data, .data], laidTests := true, laidLooks := .later }
def FnExactWayWithoutCardSaid : Prop := Claim7.holds Tryd.pinned (.plain (OpenSpec.ofChange fnExactWayWithoutSpec)) fnExactWayWithoutCard

/-- THE TIED CARD OF 'laws.FnExactWorstLoss'. -/
def fnExactWorstLossCard : Claim7 := { stood := { row := fnExactWorstLossRow, standIns := [], harness := (true, "2f922816bb7beb27fb482cfa9dfff6666c181ce0d52c0f4632fdac164495f257"), looks := false }, kinds := [], alts := [], laidByText := true, laidKinds := [.data, .data], laidTests := true, laidLooks := .later }
def FnExactWorstLossCardSaid : Prop := Claim7.holds Tryd.pinned (.plain (OpenSpec.ofChange fnExactWorstLossSpec)) fnExactWorstLossCard

/-- THE TIED CARD OF 'laws.FnExactFewestBrakes'. -/
def fnExactFewestBrakesCard : Claim7 := { stood := { row := fnExactFewestBrakesRow, standIns := [], harness := (true, "2f922816bb7beb27fb482cfa9dfff6666c181ce0d52c0f4632fdac164495f257"), looks := false }, kinds := [], alts := [], laidByText := true, laidKinds := [.data, .data], laidTests := true, laidLooks := .later }
def FnExactFewestBrakesCardSaid : Prop := Claim7.holds Tryd.pinned (.plain (OpenSpec.ofChange fnExactFewestBrakesSpec)) fnExactFewestBrakesCard

/-- THE TIED CARD OF 'laws.FnExactSafeSpeed'. -/
def fnExactSafeSpeedCard : Claim7 := { stood := { row := fnExactSafeSpeedRow, standIns := [], harness := (true, "2f922816bb7beb27fb482cfa9dfff6666c181ce0d52c0f4632fdac164495f257"), looks := false }, kinds := [], alts := [], laidByText := true, laidKinds := [.data, .data], laidTests := true, laidLooks := .later }
def FnExactSafeSpeedCardSaid : Prop := Claim7.holds Tryd.pinned (.plain (OpenSpec.ofChange fnExactSafeSpeedSpec)) fnExactSafeSpeedCard

/-- THE TIED CARD OF 'laws.FnExactHoldsStill'. -/
def fnExactHoldsStillCard : Claim7 := { stood := { row := fnExactHoldsStillRow, standIns := [], harness := (true, "2f922816bb7beb27fb482cfa9dfff6666c181ce0d52c0f4632fdac164495f257"), looks := false }, kinds := [], alts := [], laidByText := true, laidKinds := [.data, .data], laidTests := true, laidLooks := .later }
def FnExactHoldsStillCardSaid : Prop := Claim7.holds Tryd.pinned (.plain (OpenSpec.ofChange fnExactHoldsStillSpec)) fnExactHoldsStillCard

/-- THE TIED CARD OF 'laws.FnExactWorstPull'. -/
def fnExactWorstPullCard : Claim7 := { stood := { row := fnExactWorstPullRow, standIns := [], harness := (true, "2f922816bb7beb27fb482cfa9dfff6666c181ce0d52c0f4632fdac164495f257"), looks := false }, kinds := [], alts := [], laidByText := true, laidKinds := [.data, .data], laidTests := true, laidLooks := .later }
def FnExactWorstPullCardSaid : Prop := Claim7.holds Tryd.pinned (.plain (OpenSpec.ofChange fnExactWorstPullSpec)) fnExactWorstPullCard

/-- THE SECOND FORM's CARD OF 'laws.FnBrakes'. -/
def fnBrakesUptoCard : Claim7 := { stood := { row := fnBrakesUptoRow, standIns := [], harness := (true, "2f922816bb7beb27fb482cfa9dfff6666c181ce0d52c0f4632fdac164495f257"), looks := false }, kinds := [], alts := [], laidByText := true, laidKinds := [.data, .data], laidTests := true, laidLooks := .later }
def FnBrakesUptoCardSaid : Prop := Claim7.holds Tryd.pinned (.plain (OpenSpec.upto fnBrakesSpec)) fnBrakesUptoCard

/-- THE SECOND FORM's CARD OF 'laws.FnLoads'. -/
def fnLoadsUptoCard : Claim7 := { stood := { row := fnLoadsUptoRow, standIns := [], harness := (true, "2f922816bb7beb27fb482cfa9dfff6666c181ce0d52c0f4632fdac164495f257"), looks := false }, kinds := [], alts := [], laidByText := true, laidKinds := [.data, .data], laidTests := true, laidLooks := .later }
def FnLoadsUptoCardSaid : Prop := Claim7.holds Tryd.pinned (.plain (OpenSpec.upto fnLoadsSpec)) fnLoadsUptoCard

/-- THE SECOND FORM's CARD OF 'laws.FnExactBrakeSpeeds'. -/
def fnExactBrakeSpeedsUptoCard : Claim7 := { stood := { row := fnExactBrakeSpeedsUptoRow, standIns := [], harness := (true, "2f922816bb7beb27fb482cfa9dfff6666c181ce0d52c0f4632fdac164495f257"), looks := false }, kinds := [], alts := [], laidByText := true, laidKinds := [.data, .data], laidTests := true, laidLooks := .later }
def FnExactBrakeSpeedsUptoCardSaid : Prop := Claim7.holds Tryd.pinned (.plain (OpenSpec.upto fnExactBrakeSpeedsSpec)) fnExactBrakeSpeedsUptoCard

/-- THE SECOND FORM's CARD OF 'laws.FnExactBrakeWay'. -/
def fnExactBrakeWayUptoCard : Claim7 := { stood := { row := fnExactBrakeWayUptoRow, standIns := [], harness := (true, "2f922816bb7beb27fb482cfa9dfff6666c181ce0d52c0f4632fdac164495f257"), looks := false }, kinds := [], alts := [], laidByText := true, laidKinds := [.data, .data], laidTests := true, laidLooks := .later }
def FnExactBrakeWayUptoCardSaid : Prop := Claim7.holds Tryd.pinned (.plain (OpenSpec.upto fnExactBrakeWaySpec)) fnExactBrakeWayUptoCard

/-- THE SECOND FORM's CARD OF 'laws.FnExactWayWithout'. -/
def fnExactWayWithoutUptoCard : Claim7 := { stood := { row := fnExactWayWithoutUptoRow, standIns := [], harness := (true, "2f922816bb7beb27fb482cfa9dfff6666c181ce0d52c0f4632fdac164495f257"), looks := false }, kinds := [], alts := [], laidByText := true, laidKinds := [.data, .data], laidTests := true, laidLooks := .later }
def FnExactWayWithoutUptoCardSaid : Prop := Claim7.holds Tryd.pinned (.plain (OpenSpec.upto fnExactWayWithoutSpec)) fnExactWayWithoutUptoCard

/-- THE SECOND FORM's CARD OF 'laws.FnExactWorstLoss'. -/
def fnExactWorstLossUptoCard : Claim7 := { stood := { row := fnExactWorstLossUptoRow, standIns := [], harness := (true, "2f922816bb7beb27fb482cfa9dfff6666c181ce0d52c0f4632fdac164495f257"), looks := false }, kinds := [], alts := [], laidByText := true, laidKinds := [.data, .data], laidTests := true, laidLooks := .later }
def FnExactWorstLossUptoCardSaid : Prop := Claim7.holds Tryd.pinned (.plain (OpenSpec.upto fnExactWorstLossSpec)) fnExactWorstLossUptoCard

/-- THE SECOND FORM's CARD OF 'laws.FnExactFewestBrakes'. -/
def fnExactFewestBrakesUptoCard : Claim7 := { stood := { row := fnExactFewestBrakesUptoRow, standIns := [], harness := (true, "2f922816bb7beb27fb482cfa9dfff6666c181ce0d52c0f4632fdac164495f257"), looks := false }, kinds := [], alts := [], laidByText := true, laidKinds := [.data, .data], laidTests := true, laidLooks := .later }
def FnExactFewestBrakesUptoCardSaid : Prop := Claim7.holds Tryd.pinned (.plain (OpenSpec.upto fnExactFewestBrakesSpec)) fnExactFewestBrakesUptoCard

/-- THE SECOND FORM's CARD OF 'laws.FnExactSafeSpeed'. -/
def fnExactSafeSpeedUptoCard : Claim7 := { stood := { row := fnExactSafeSpeedUptoRow, standIns := [], harness := (true, "2f922816bb7beb27fb482cfa9dfff6666c181ce0d52c0f4632fdac164495f257"), looks := false }, kinds := [], alts := [], laidByText := true, laidKinds := [.data, .data], laidTests := true, laidLooks := .later }
def FnExactSafeSpeedUptoCardSaid : Prop := Claim7.holds Tryd.pinned (.plain (OpenSpec.upto fnExactSafeSpeedSpec)) fnExactSafeSpeedUptoCard

/-- THE SECOND FORM's CARD OF 'laws.FnExactHoldsStill'. -/
def fnExactHoldsStillUptoCard : Claim7 := { stood := { row := fnExactHoldsStillUptoRow, standIns := [], harness := (true, "2f922816bb7beb27fb482cfa9dfff6666c181ce0d52c0f4632fdac164495f257"), looks := false }, kinds := [], alts := [], laidByText := true, laidKinds := [.data, .data], laidTests := true, laidLooks := .later }
def FnExactHoldsStillUptoCardSaid : Prop := Claim7.holds Tryd.pinned (.plain (OpenSpec.upto fnExactHoldsStillSpec)) fnExactHoldsStillUptoCard

/-- THE SECOND FORM's CARD OF 'laws.FnExactWorstPull'. -/
def fnExactWorstPullUptoCard : Claim7 := { stood := { row := fnExactWorstPullUptoRow, standIns := [], harness := (true, "2f922816bb7beb27fb482cfa9dfff6666c181ce0d52c0f4632fdac164495f257"), looks := false }, kinds := [], alts := [], laidByText := true, laidKinds := [.data, .data], laidTests := true, laidLooks := .later }
def FnExactWorstPullUptoCardSaid : Prop := Claim7.holds Tryd.pinned (.plain (OpenSpec.upto fnExactWorstPullSpec)) fnExactWorstPullUptoCard
end Rows
end Go.Proofs.YthmoogkllpcebaaDoor
