/-
  DERIVED. GIVEN WITH THE SEED: THE CARDS: each row of YtpknodbkjjcdjaaDoorRows.lean that lists a variable, with what it lists TIED to the program's text (the seventh form; the later family's looks); each row that meets fmt, with fmt's text TOLD by the authors' own Lean function (tested against real Go, not proved from fmt's source: count such statements apart). THE CARD IS WHAT COUNTS. Prove the row's statement (the work); the ties are given (YtpknodbkjjcdjaaDoorTie.lean); close each card by the builder's one call (the guide's Derived/Test/ToyasCard.lean, 'card_holds'). Laid BY PROGRAM, IN A SANDBOX (cutbox-door.mjs). By AI agents, Wed Nov 11 2026. No macro, syntax, notation, axiom, sorry.
-/
import Derived.Test.YtpknodbkjjcdjaaDoorRows
import GoSem.ClaimSeven
namespace Go.Proofs.YtpknodbkjjcdjaaDoor
namespace Rows

/-- THE TIED CARD OF 'laws.FnTickets'. -/
def fnTicketsCard : Claim7 := { stood := { row := fnTicketsRow, standIns := [], harness := (true, "648013ef26219dbb0fe49c4152fb45c9588ab379adf133fa84d1c7c7c4942680"), looks := false }, kinds := [], alts := [], laidByText := true, laidKinds := [.data], laidTests := true, laidLooks := .later }
def FnTicketsCardSaid : Prop := Claim7.holds Tryd.pinned (.plain (OpenSpec.ofChange fnTicketsSpec)) fnTicketsCard

/-- THE TIED CARD OF 'laws.FnPrices'. -/
def fnPricesCard : Claim7 := { stood := { row := fnPricesRow, standIns := [], harness := (true, "648013ef26219dbb0fe49c4152fb45c9588ab379adf133fa84d1c7c7c4942680"), looks := false }, kinds := [], alts := [], laidByText := true, laidKinds := [.data], laidTests := true, laidLooks := .later }
def FnPricesCardSaid : Prop := Claim7.holds Tryd.pinned (.plain (OpenSpec.ofChange fnPricesSpec)) fnPricesCard

/-- THE TIED CARD OF 'laws.FnExactIsTicket'. -/
def fnExactIsTicketCard : Claim7 := { stood := { row := fnExactIsTicketRow, standIns := [], harness := (true, "648013ef26219dbb0fe49c4152fb45c9588ab379adf133fa84d1c7c7c4942680"), looks := false }, kinds := [], alts := [], laidByText := true, laidKinds := [.data], laidTests := true, laidLooks := .later }
def FnExactIsTicketCardSaid : Prop := Claim7.holds Tryd.pinned (.plain (OpenSpec.ofChange fnExactIsTicketSpec)) fnExactIsTicketCard

/-- THE TIED CARD OF 'laws.FnExactAreTickets'. -/
def fnExactAreTicketsCard : Claim7 := { stood := { row := fnExactAreTicketsRow, standIns := [], harness := (true, "648013ef26219dbb0fe49c4152fb45c9588ab379adf133fa84d1c7c7c4942680"), looks := false }, kinds := [], alts := [], laidByText := true, laidKinds := [.data], laidTests := true, laidLooks := .later }
def FnExactAreTicketsCardSaid : Prop := Claim7.holds Tryd.pinned (.plain (OpenSpec.ofChange fnExactAreTicketsSpec)) fnExactAreTicketsCard

/-- THE TIED CARD OF 'laws.FnExactCanRide'. -/
def fnExactCanRideCard : Claim7 := { stood := { row := fnExactCanRideRow, standIns := [], harness := (true, "648013ef26219dbb0fe49c4152fb45c9588ab379adf133fa84d1c7c7c4942680"), looks := false }, kinds := [], alts := [], laidByText := true, laidKinds := [.data], laidTests := true, laidLooks := .later }
def FnExactCanRideCardSaid : Prop := Claim7.holds Tryd.pinned (.plain (OpenSpec.ofChange fnExactCanRideSpec)) fnExactCanRideCard

/-- THE TIED CARD OF 'laws.FnExactUseTicket'. -/
def fnExactUseTicketCard : Claim7 := { stood := { row := fnExactUseTicketRow, standIns := [], harness := (true, "648013ef26219dbb0fe49c4152fb45c9588ab379adf133fa84d1c7c7c4942680"), looks := false }, kinds := [], alts := [], laidByText := true, laidKinds := [.data], laidTests := true, laidLooks := .later }
def FnExactUseTicketCardSaid : Prop := Claim7.holds Tryd.pinned (.plain (OpenSpec.ofChange fnExactUseTicketSpec)) fnExactUseTicketCard

/-- THE TIED CARD OF 'laws.FnExactSellTicket'. -/
def fnExactSellTicketCard : Claim7 := { stood := { row := fnExactSellTicketRow, standIns := [], harness := (true, "648013ef26219dbb0fe49c4152fb45c9588ab379adf133fa84d1c7c7c4942680"), looks := false }, kinds := [], alts := [], laidByText := true, laidKinds := [.data], laidTests := true, laidLooks := .later }
def FnExactSellTicketCardSaid : Prop := Claim7.holds Tryd.pinned (.plain (OpenSpec.ofChange fnExactSellTicketSpec)) fnExactSellTicketCard

/-- THE TIED CARD OF 'laws.FnExactRidesLeft'. -/
def fnExactRidesLeftCard : Claim7 := { stood := { row := fnExactRidesLeftRow, standIns := [], harness := (true, "648013ef26219dbb0fe49c4152fb45c9588ab379adf133fa84d1c7c7c4942680"), looks := false }, kinds := [], alts := [], laidByText := true, laidKinds := [.data], laidTests := true, laidLooks := .later }
def FnExactRidesLeftCardSaid : Prop := Claim7.holds Tryd.pinned (.plain (OpenSpec.ofChange fnExactRidesLeftSpec)) fnExactRidesLeftCard

/-- THE TIED CARD OF 'laws.FnExactStillUp'. -/
def fnExactStillUpCard : Claim7 := { stood := { row := fnExactStillUpRow, standIns := [], harness := (true, "648013ef26219dbb0fe49c4152fb45c9588ab379adf133fa84d1c7c7c4942680"), looks := false }, kinds := [], alts := [], laidByText := true, laidKinds := [.data], laidTests := true, laidLooks := .later }
def FnExactStillUpCardSaid : Prop := Claim7.holds Tryd.pinned (.plain (OpenSpec.ofChange fnExactStillUpSpec)) fnExactStillUpCard

/-- THE TIED CARD OF 'laws.FnExactSalesOn'. -/
def fnExactSalesOnCard : Claim7 := { stood := { row := fnExactSalesOnRow, standIns := [], harness := (true, "648013ef26219dbb0fe49c4152fb45c9588ab379adf133fa84d1c7c7c4942680"), looks := false }, kinds := [], alts := [], laidByText := true, laidKinds := [.data], laidTests := true, laidLooks := .later }
def FnExactSalesOnCardSaid : Prop := Claim7.holds Tryd.pinned (.plain (OpenSpec.ofChange fnExactSalesOnSpec)) fnExactSalesOnCard

/-- THE TIED CARD OF 'laws.FnExactCheapestFor'. -/
def fnExactCheapestForCard : Claim7 := { stood := { row := fnExactCheapestForRow, standIns := [], harness := (true, "648013ef26219dbb0fe49c4152fb45c9588ab379adf133fa84d1c7c7c4942680"), looks := false }, kinds := [], alts := [], laidByText := true, laidKinds := [.data], laidTests := true, laidLooks := .later }
def FnExactCheapestForCardSaid : Prop := Claim7.holds Tryd.pinned (.plain (OpenSpec.ofChange fnExactCheapestForSpec)) fnExactCheapestForCard

/-- THE TIED CARD OF 'laws.FnExactExpiredOn'. -/
def fnExactExpiredOnCard : Claim7 := { stood := { row := fnExactExpiredOnRow, standIns := [], harness := (true, "648013ef26219dbb0fe49c4152fb45c9588ab379adf133fa84d1c7c7c4942680"), looks := false }, kinds := [], alts := [], laidByText := true, laidKinds := [.data], laidTests := true, laidLooks := .later }
def FnExactExpiredOnCardSaid : Prop := Claim7.holds Tryd.pinned (.plain (OpenSpec.ofChange fnExactExpiredOnSpec)) fnExactExpiredOnCard

/-- THE SECOND FORM's CARD OF 'laws.FnTickets'. -/
def fnTicketsUptoCard : Claim7 := { stood := { row := fnTicketsUptoRow, standIns := [], harness := (true, "648013ef26219dbb0fe49c4152fb45c9588ab379adf133fa84d1c7c7c4942680"), looks := false }, kinds := [], alts := [], laidByText := true, laidKinds := [.data], laidTests := true, laidLooks := .later }
def FnTicketsUptoCardSaid : Prop := Claim7.holds Tryd.pinned (.plain (OpenSpec.upto fnTicketsSpec)) fnTicketsUptoCard

/-- THE SECOND FORM's CARD OF 'laws.FnPrices'. -/
def fnPricesUptoCard : Claim7 := { stood := { row := fnPricesUptoRow, standIns := [], harness := (true, "648013ef26219dbb0fe49c4152fb45c9588ab379adf133fa84d1c7c7c4942680"), looks := false }, kinds := [], alts := [], laidByText := true, laidKinds := [.data], laidTests := true, laidLooks := .later }
def FnPricesUptoCardSaid : Prop := Claim7.holds Tryd.pinned (.plain (OpenSpec.upto fnPricesSpec)) fnPricesUptoCard

/-- THE SECOND FORM's CARD OF 'laws.FnExactIsTicket'. -/
def fnExactIsTicketUptoCard : Claim7 := { stood := { row := fnExactIsTicketUptoRow, standIns := [], harness := (true, "648013ef26219dbb0fe49c4152fb45c9588ab379adf133fa84d1c7c7c4942680"), looks := false }, kinds := [], alts := [], laidByText := true, laidKinds := [.data], laidTests := true, laidLooks := .later }
def FnExactIsTicketUptoCardSaid : Prop := Claim7.holds Tryd.pinned (.plain (OpenSpec.upto fnExactIsTicketSpec)) fnExactIsTicketUptoCard

/-- THE SECOND FORM's CARD OF 'laws.FnExactAreTickets'. -/
def fnExactAreTicketsUptoCard : Claim7 := { stood := { row := fnExactAreTicketsUptoRow, standIns := [], harness := (true, "648013ef26219dbb0fe49c4152fb45c9588ab379adf133fa84d1c7c7c4942680"), looks := false }, kinds := [], alts := [], laidByText := true, laidKinds := [.data], laidTests := true, laidLooks := .later }
def FnExactAreTicketsUptoCardSaid : Prop := Claim7.holds Tryd.pinned (.plain (OpenSpec.upto fnExactAreTicketsSpec)) fnExactAreTicketsUptoCard

/-- THE SECOND FORM's CARD OF 'laws.FnExactCanRide'. -/
def fnExactCanRideUptoCard : Claim7 := { stood := { row := fnExactCanRideUptoRow, standIns := [], harness := (true, "648013ef26219dbb0fe49c4152fb45c9588ab379adf133fa84d1c7c7c4942680"), looks := false }, kinds := [], alts := [], laidByText := true, laidKinds := [.data], laidTests := true, laidLooks := .later }
def FnExactCanRideUptoCardSaid : Prop := Claim7.holds Tryd.pinned (.plain (OpenSpec.upto fnExactCanRideSpec)) fnExactCanRideUptoCard

/-- THE SECOND FORM's CARD OF 'laws.FnExactUseTicket'. -/
def fnExactUseTicketUptoCard : Claim7 := { stood := { row := fnExactUseTicketUptoRow, standIns := [], harness := (true, "648013ef26219dbb0fe49c4152fb45c9588ab379adf133fa84d1c7c7c4942680"), looks := false }, kinds := [], alts := [], laidByText := true, laidKinds := [.data], laidTests := true, laidLooks := .later }
def FnExactUseTicketUptoCardSaid : Prop := Claim7.holds Tryd.pinned (.plain (OpenSpec.upto fnExactUseTicketSpec)) fnExactUseTicketUptoCard

/-- THE SECOND FORM's CARD OF 'laws.FnExactSellTicket'. -/
def fnExactSellTicketUptoCard : Claim7 := { stood := { row := fnExactSellTicketUptoRow, standIns := [], harness := (true, "648013ef26219dbb0fe49c4152fb45c9588ab379adf133fa84d1c7c7c4942680"), looks := false }, kinds := [], alts := [], laidByText := true, laidKinds := [.data], laidTests := true, laidLooks := .later }
def FnExactSellTicketUptoCardSaid : Prop := Claim7.holds Tryd.pinned (.plain (OpenSpec.upto fnExactSellTicketSpec)) fnExactSellTicketUptoCard

/-- THE SECOND FORM's CARD OF 'laws.FnExactRidesLeft'. -/
def fnExactRidesLeftUptoCard : Claim7 := { stood := { row := fnExactRidesLeftUptoRow, standIns := [], harness := (true, "648013ef26219dbb0fe49c4152fb45c9588ab379adf133fa84d1c7c7c4942680"), looks := false }, kinds := [], alts := [], laidByText := true, laidKinds := [.data], laidTests := true, laidLooks := .later }
def FnExactRidesLeftUptoCardSaid : Prop := Claim7.holds Tryd.pinned (.plain (OpenSpec.upto fnExactRidesLeftSpec)) fnExactRidesLeftUptoCard

/-- THE SECOND FORM's CARD OF 'laws.FnExactStillUp'. -/
def fnExactStillUpUptoCard : Claim7 := { stood := { row := fnExactStillUpUptoRow, standIns := [], harness := (true, "648013ef26219dbb0fe49c4152fb45c9588ab379adf133fa84d1c7c7c4942680"), looks := false }, kinds := [], alts := [], laidByText := true, laidKinds := [.data], laidTests := true, laidLooks := .later }
def FnExactStillUpUptoCardSaid : Prop := Claim7.holds Tryd.pinned (.plain (OpenSpec.upto fnExactStillUpSpec)) fnExactStillUpUptoCard

/-- THE SECOND FORM's CARD OF 'laws.FnExactSalesOn'. -/
def fnExactSalesOnUptoCard : Claim7 := { stood := { row := fnExactSalesOnUptoRow, standIns := [], harness := (true, "648013ef26219dbb0fe49c4152fb45c9588ab379adf133fa84d1c7c7c4942680"), looks := false }, kinds := [], alts := [], laidByText := true, laidKinds := [.data], laidTests := true, laidLooks := .later }
def FnExactSalesOnUptoCardSaid : Prop := Claim7.holds Tryd.pinned (.plain (OpenSpec.upto fnExactSalesOnSpec)) fnExactSalesOnUptoCard

/-- THE SECOND FORM's CARD OF 'laws.FnExactCheapestFor'. -/
def fnExactCheapestForUptoCard : Claim7 := { stood := { row := fnExactCheapestForUptoRow, standIns := [], harness := (true, "648013ef26219dbb0fe49c4152fb45c9588ab379adf133fa84d1c7c7c4942680"), looks := false }, kinds := [], alts := [], laidByText := true, laidKinds := [.data], laidTests := true, laidLooks := .later }
def FnExactCheapestForUptoCardSaid : Prop := Claim7.holds Tryd.pinned (.plain (OpenSpec.upto fnExactCheapestForSpec)) fnExactCheapestForUptoCard

/-- THE SECOND FORM's CARD OF 'laws.FnExactExpiredOn'. -/
def fnExactExpiredOnUptoCard : Claim7 := { stood := { row := fnExactExpiredOnUptoRow, standIns := [], harness := (true, "648013ef26219dbb0fe49c4152fb45c9588ab379adf133fa84d1c7c7c4942680"), looks := false }, kinds := [], alts := [], laidByText := true, laidKinds := [.data], laidTests := true, laidLooks := .later }
def FnExactExpiredOnUptoCardSaid : Prop := Claim7.holds Tryd.pinned (.plain (OpenSpec.upto fnExactExpiredOnSpec)) fnExactExpiredOnUptoCard
end Rows
end Go.Proofs.YtpknodbkjjcdjaaDoor
