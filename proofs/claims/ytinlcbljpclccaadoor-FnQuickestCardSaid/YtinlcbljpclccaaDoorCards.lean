/-
  DERIVED. GIVEN WITH THE SEED: THE CARDS: each row of YtinlcbljpclccaaDoorRows.lean that lists a variable, with what it lists TIED to the program's text (the seventh form; the later family's looks); each row that meets fmt, with fmt's text TOLD by the authors' own Lean function (tested against real Go, not proved from fmt's source: count such statements apart). THE CARD IS WHAT COUNTS. Prove the row's statement (the work); the ties are given (YtinlcbljpclccaaDoorTie.lean); close each card by the builder's one call (the guide's Derived/Test/ToyasCard.lean, 'card_holds'). Laid BY PROGRAM, IN A SANDBOX (cutbox-door.mjs). By AI agents, Wed Nov 11 2026. No macro, syntax, notation, axiom, sorry.
-/
import Derived.Test.YtinlcbljpclccaaDoorRows
import GoSem.ClaimSeven
namespace Go.Proofs.YtinlcbljpclccaaDoor
namespace Rows

/-- THE TIED CARD OF 'laws.FnQuickest'. -/
def fnQuickestCard : Claim7 := { stood := { row := fnQuickestRow, standIns := [], harness := (true, "186beb6730c13abcb56d410b18600809881715527e8e5a5ed8cda74d0d9865c0"), looks := false }, kinds := [], alts := [], laidByText := true, laidKinds := [.data, .data, .data], laidTests := true, laidLooks := .later }
def FnQuickestCardSaid : Prop := Claim7.holds Tryd.pinned (.plain (OpenSpec.ofChange fnQuickestSpec)) fnQuickestCard

/-- THE TIED CARD OF 'laws.FnExactBoardText'. -/
def fnExactBoardTextCard : Claim7 := { stood := { row := fnExactBoardTextRow, standIns := [], harness := (true, "186beb6730c13abcb56d410b18600809881715527e8e5a5ed8cda74d0d9865c0"), looks := false }, kinds := [], alts := [], laidByText := true, laidKinds := [.data, .data, .data], laidTests := true, laidLooks := .later }
def FnExactBoardTextCardSaid : Prop := Claim7.holds Tryd.pinned (.plain (OpenSpec.ofChange fnExactBoardTextSpec)) fnExactBoardTextCard

/-- THE SECOND FORM's CARD OF 'laws.FnQuickest'. -/
def fnQuickestUptoCard : Claim7 := { stood := { row := fnQuickestUptoRow, standIns := [], harness := (true, "186beb6730c13abcb56d410b18600809881715527e8e5a5ed8cda74d0d9865c0"), looks := false }, kinds := [], alts := [], laidByText := true, laidKinds := [.data, .data, .data], laidTests := true, laidLooks := .later }
def FnQuickestUptoCardSaid : Prop := Claim7.holds Tryd.pinned (.plain (OpenSpec.upto fnQuickestSpec)) fnQuickestUptoCard

/-- THE SECOND FORM's CARD OF 'laws.FnExactBoardText'. -/
def fnExactBoardTextUptoCard : Claim7 := { stood := { row := fnExactBoardTextUptoRow, standIns := [], harness := (true, "186beb6730c13abcb56d410b18600809881715527e8e5a5ed8cda74d0d9865c0"), looks := false }, kinds := [], alts := [], laidByText := true, laidKinds := [.data, .data, .data], laidTests := true, laidLooks := .later }
def FnExactBoardTextUptoCardSaid : Prop := Claim7.holds Tryd.pinned (.plain (OpenSpec.upto fnExactBoardTextSpec)) fnExactBoardTextUptoCard
end Rows
end Go.Proofs.YtinlcbljpclccaaDoor
