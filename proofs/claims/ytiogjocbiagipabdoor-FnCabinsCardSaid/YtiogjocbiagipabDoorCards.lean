/-
  DERIVED. GIVEN WITH THE SEED: THE CARDS: each row of YtiogjocbiagipabDoorRows.lean that lists a variable, with what it lists TIED to the program's text (the seventh form; the later family's looks); each row that meets fmt, with fmt's text TOLD by the authors' own Lean function (tested against real Go, not proved from fmt's source: count such statements apart). THE CARD IS WHAT COUNTS. Prove the row's statement (the work); the ties are given (YtiogjocbiagipabDoorTie.lean); close each card by the builder's one call (the guide's Derived/Test/ToyasCard.lean, 'card_holds'). Laid BY PROGRAM, IN A SANDBOX (cutbox-door.mjs). By AI agents, Wed Nov 11 2026. No macro, syntax, notation, axiom, sorry.
-/
import Derived.Test.YtiogjocbiagipabDoorRows
import GoSem.ClaimSeven
namespace Go.Proofs.YtiogjocbiagipabDoor
namespace Rows

/-- THE TIED CARD OF 'laws.FnExactMoveCabin'. -/
def fnExactMoveCabinCard : Claim7 := { stood := { row := fnExactMoveCabinRow, standIns := [], harness := (true, "872269936602d3b1879a2752122ca54044c2fe3343ea88c3d820bd680db03a05"), looks := true }, kinds := [], alts := [], laidByText := true, laidKinds := [.data], laidTests := true, laidLooks := .later }
def FnExactMoveCabinCardSaid : Prop := Claim7.holds Tryd.pinned (.plain (OpenSpec.ofChange fnExactMoveCabinSpec)) fnExactMoveCabinCard

/-- THE TIED CARD OF 'laws.FnCabins'. -/
def fnCabinsCard : Claim7 := { stood := { row := fnCabinsRow, standIns := [], harness := (true, "872269936602d3b1879a2752122ca54044c2fe3343ea88c3d820bd680db03a05"), looks := true }, kinds := [], alts := [], laidByText := true, laidKinds := [.data, .data, .data, .sentinel, .sentinel, .data, .data], laidTests := true, laidLooks := .later }
def FnCabinsCardSaid : Prop := Claim7.holds Tryd.pinned (.plain (OpenSpec.ofChange fnCabinsSpec)) fnCabinsCard

/-- THE TIED CARD OF 'laws.FnSeats'. -/
def fnSeatsCard : Claim7 := { stood := { row := fnSeatsRow, standIns := [], harness := (true, "872269936602d3b1879a2752122ca54044c2fe3343ea88c3d820bd680db03a05"), looks := true }, kinds := [], alts := [], laidByText := true, laidKinds := [.data], laidTests := true, laidLooks := .later }
def FnSeatsCardSaid : Prop := Claim7.holds Tryd.pinned (.plain (OpenSpec.ofChange fnSeatsSpec)) fnSeatsCard

/-- THE SECOND FORM's CARD OF 'laws.FnExactMoveCabin'. -/
def fnExactMoveCabinUptoCard : Claim7 := { stood := { row := fnExactMoveCabinUptoRow, standIns := [], harness := (true, "872269936602d3b1879a2752122ca54044c2fe3343ea88c3d820bd680db03a05"), looks := true }, kinds := [], alts := [], laidByText := true, laidKinds := [.data], laidTests := true, laidLooks := .later }
def FnExactMoveCabinUptoCardSaid : Prop := Claim7.holds Tryd.pinned (.plain (OpenSpec.upto fnExactMoveCabinSpec)) fnExactMoveCabinUptoCard

/-- THE SECOND FORM's CARD OF 'laws.FnCabins'. -/
def fnCabinsUptoCard : Claim7 := { stood := { row := fnCabinsUptoRow, standIns := [], harness := (true, "872269936602d3b1879a2752122ca54044c2fe3343ea88c3d820bd680db03a05"), looks := true }, kinds := [], alts := [], laidByText := true, laidKinds := [.data, .data, .data, .sentinel, .sentinel, .data, .data], laidTests := true, laidLooks := .later }
def FnCabinsUptoCardSaid : Prop := Claim7.holds Tryd.pinned (.plain (OpenSpec.upto fnCabinsSpec)) fnCabinsUptoCard

/-- THE SECOND FORM's CARD OF 'laws.FnSeats'. -/
def fnSeatsUptoCard : Claim7 := { stood := { row := fnSeatsUptoRow, standIns := [], harness := (true, "872269936602d3b1879a2752122ca54044c2fe3343ea88c3d820bd680db03a05"), looks := true }, kinds := [], alts := [], laidByText := true, laidKinds := [.data], laidTests := true, laidLooks := .later }
def FnSeatsUptoCardSaid : Prop := Claim7.holds Tryd.pinned (.plain (OpenSpec.upto fnSeatsSpec)) fnSeatsUptoCard
end Rows
end Go.Proofs.YtiogjocbiagipabDoor
