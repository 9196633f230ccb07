/-
  NARROWER THAN 'FOR EVERY INPUT', by the rows' own cells (each row's printed sentence says how): FnTickets: laid · FnPrices: laid · FnExactIsTicket: laid · FnExactAreTickets: laid · FnExactCanRide: laid · FnExactUseTicket: laid · FnExactSellTicket: laid · FnExactRidesLeft: laid · FnExactStillUp: laid · FnExactSalesOn: laid · FnExactCheapestFor: laid · FnExactExpiredOn: laid.
  DERIVED. THE GIVEN ROWS OF THIS SEAT. 12 by the template 'for every input the law returns true; each argument reads behind the call as it read before'; 0 by the template 'total and deterministic' (their statements: YtpknodbkjjcdjaaDoorTotals.lean).
  GIVEN WITH THE SEED: the statements are not yours to turn. If you find one false, say at which input.
  Laid BY PROGRAM, IN A SANDBOX (cutbox-rows.mjs): the forced cells as the released guide's own fill.sh prints them over the translation 26c3f416d0532fe9… (all of the seat's roots in one cut). By AI agents, Wed Nov 11 2026. No macro, syntax, notation, axiom, sorry.
-/
import Derived.Test.YtpknodbkjjcdjaaDoorChecked
import GoSem.Claim
import GoSem.ClaimJoined
import GoSem.ClaimMapViews
import Derived.JoinedTies
import Derived.KernelRfl
namespace Go.Proofs.YtpknodbkjjcdjaaDoor
/- THE CELL 'sum', in the pinned program and in every row, IS THE sha256 OF THE DUMP (.gsa) THAT YtpknodbkjjcdjaaDoorProg.lean LOADS. Nothing in Lean hashes anything: it is a label: what it is worth is what the hold of that sum in a sandbox is worth. -/
noncomputable def Tryd.pinned : Pinned := { name := "ytpknodbkjjcdjaadoor", sum := "26c3f416d0532fe95d1de3f6c044159a9773a817c7173650361e81cfe547781e", checked := Tryd.checked }
namespace Rows
def none {H : Type} : Left H := { results := [], args := [] }

/- WHAT THE LISTED PACKAGE-LEVEL VARIABLES READ AS WHEN THE CALL BEGINS. Each datum BY PROGRAM (the guide's laid-datum.mjs) off the statement by which the dump's own 'gosem.cut.vars' lays the variable. In a bare row this is a premise. The card (YtpknodbkjjcdjaaDoorCards.lean) ties it to the program's text. -/
def laid_loop_example_g00935_impl_ticketRules {H : Type} : DataW H := .agg [.agg [.lit (.int .i64 1), .lit (.int .i64 1), .lit (.int .i64 2)], .agg [.lit (.int .i64 1), .lit (.int .i64 2), .lit (.int .i64 2)], .agg [.lit (.int .i64 50), .lit (.int .i64 100), .lit (.int .i64 1)], .agg [.lit (.int .i64 10), .lit (.int .i64 10), .lit (.int .i64 365)]]

/-- 'laws.FnTickets': WHATEVER THE INPUT: true; the input reads as it did. -/
def fnTicketsSpec : ChangeSpec := { name := "fnTickets", vars := ["loop.example/g00935/impl.ticketRules"], fn := fun _ => fun
  | [d, g1] => { results := [.lit (.bool true)], args := [d], vars := [g1] }
  | _ => none }
def fnTicketsRow : OpenClaim := { program := "ytpknodbkjjcdjaadoor", sum := "26c3f416d0532fe95d1de3f6c044159a9773a817c7173650361e81cfe547781e", func := "loop.example/g00935/laws.FnTickets", spec := "fnTickets", unfollowed := true, recurses := true, named := ["loop.example/g00935/impl.ticketRules"], apart := false, laid := [("loop.example/g00935/impl.ticketRules", laid_loop_example_g00935_impl_ticketRules)] }
def FnTicketsSaid : Prop := fnTicketsRow.holds Tryd.pinned (OpenSpec.ofChange fnTicketsSpec)

/-- ITS FALSE NEIGHBOUR: 'it returns false'. Refute it at one input. -/
def fnTicketsWrong : ChangeSpec := { name := "fnTickets", vars := ["loop.example/g00935/impl.ticketRules"], fn := fun _ => fun
  | [d, g1] => { results := [.lit (.bool false)], args := [d], vars := [g1] }
  | _ => none }
def FnTicketsWrongFalsely : Prop := fnTicketsRow.holds Tryd.pinned (OpenSpec.ofChange fnTicketsWrong)

/-- 'laws.FnPrices': WHATEVER THE INPUT: true; the input reads as it did. -/
def fnPricesSpec : ChangeSpec := { name := "fnPrices", vars := ["loop.example/g00935/impl.ticketRules"], fn := fun _ => fun
  | [d, g1] => { results := [.lit (.bool true)], args := [d], vars := [g1] }
  | _ => none }
def fnPricesRow : OpenClaim := { program := "ytpknodbkjjcdjaadoor", sum := "26c3f416d0532fe95d1de3f6c044159a9773a817c7173650361e81cfe547781e", func := "loop.example/g00935/laws.FnPrices", spec := "fnPrices", unfollowed := true, recurses := true, named := ["loop.example/g00935/impl.ticketRules"], apart := false, laid := [("loop.example/g00935/impl.ticketRules", laid_loop_example_g00935_impl_ticketRules)] }
def FnPricesSaid : Prop := fnPricesRow.holds Tryd.pinned (OpenSpec.ofChange fnPricesSpec)

/-- ITS FALSE NEIGHBOUR: 'it returns false'. Refute it at one input. -/
def fnPricesWrong : ChangeSpec := { name := "fnPrices", vars := ["loop.example/g00935/impl.ticketRules"], fn := fun _ => fun
  | [d, g1] => { results := [.lit (.bool false)], args := [d], vars := [g1] }
  | _ => none }
def FnPricesWrongFalsely : Prop := fnPricesRow.holds Tryd.pinned (OpenSpec.ofChange fnPricesWrong)

/-- 'laws.FnExactIsTicket': WHATEVER THE INPUT: true; the input reads as it did. -/
def fnExactIsTicketSpec : ChangeSpec := { name := "fnExactIsTicket", vars := ["loop.example/g00935/impl.ticketRules"], fn := fun _ => fun
  | [d, g1] => { results := [.lit (.bool true)], args := [d], vars := [g1] }
  | _ => none }
def fnExactIsTicketRow : OpenClaim := { program := "ytpknodbkjjcdjaadoor", sum := "26c3f416d0532fe95d1de3f6c044159a9773a817c7173650361e81cfe547781e", func := "loop.example/g00935/laws.FnExactIsTicket", spec := "fnExactIsTicket", named := ["loop.example/g00935/impl.ticketRules"], apart := false, laid := [("loop.example/g00935/impl.ticketRules", laid_loop_example_g00935_impl_ticketRules)] }
def FnExactIsTicketSaid : Prop := fnExactIsTicketRow.holds Tryd.pinned (OpenSpec.ofChange fnExactIsTicketSpec)

/-- ITS FALSE NEIGHBOUR: 'it returns false'. Refute it at one input. -/
def fnExactIsTicketWrong : ChangeSpec := { name := "fnExactIsTicket", vars := ["loop.example/g00935/impl.ticketRules"], fn := fun _ => fun
  | [d, g1] => { results := [.lit (.bool false)], args := [d], vars := [g1] }
  | _ => none }
def FnExactIsTicketWrongFalsely : Prop := fnExactIsTicketRow.holds Tryd.pinned (OpenSpec.ofChange fnExactIsTicketWrong)

/-- 'laws.FnExactAreTickets': WHATEVER THE INPUT: true; the input reads as it did. -/
def fnExactAreTicketsSpec : ChangeSpec := { name := "fnExactAreTickets", vars := ["loop.example/g00935/impl.ticketRules"], fn := fun _ => fun
  | [d, g1] => { results := [.lit (.bool true)], args := [d], vars := [g1] }
  | _ => none }
def fnExactAreTicketsRow : OpenClaim := { program := "ytpknodbkjjcdjaadoor", sum := "26c3f416d0532fe95d1de3f6c044159a9773a817c7173650361e81cfe547781e", func := "loop.example/g00935/laws.FnExactAreTickets", spec := "fnExactAreTickets", unfollowed := true, recurses := true, named := ["loop.example/g00935/impl.ticketRules"], apart := false, laid := [("loop.example/g00935/impl.ticketRules", laid_loop_example_g00935_impl_ticketRules)] }
def FnExactAreTicketsSaid : Prop := fnExactAreTicketsRow.holds Tryd.pinned (OpenSpec.ofChange fnExactAreTicketsSpec)

/-- ITS FALSE NEIGHBOUR: 'it returns false'. Refute it at one input. -/
def fnExactAreTicketsWrong : ChangeSpec := { name := "fnExactAreTickets", vars := ["loop.example/g00935/impl.ticketRules"], fn := fun _ => fun
  | [d, g1] => { results := [.lit (.bool false)], args := [d], vars := [g1] }
  | _ => none }
def FnExactAreTicketsWrongFalsely : Prop := fnExactAreTicketsRow.holds Tryd.pinned (OpenSpec.ofChange fnExactAreTicketsWrong)

/-- 'laws.FnExactCanRide': WHATEVER THE INPUT: true; the input reads as it did. -/
def fnExactCanRideSpec : ChangeSpec := { name := "fnExactCanRide", vars := ["loop.example/g00935/impl.ticketRules"], fn := fun _ => fun
  | [d1, d2, d3, g1] => { results := [.lit (.bool true)], args := [d1, d2, d3], vars := [g1] }
  | _ => none }
def fnExactCanRideRow : OpenClaim := { program := "ytpknodbkjjcdjaadoor", sum := "26c3f416d0532fe95d1de3f6c044159a9773a817c7173650361e81cfe547781e", func := "loop.example/g00935/laws.FnExactCanRide", spec := "fnExactCanRide", named := ["loop.example/g00935/impl.ticketRules"], apart := false, laid := [("loop.example/g00935/impl.ticketRules", laid_loop_example_g00935_impl_ticketRules)] }
def FnExactCanRideSaid : Prop := fnExactCanRideRow.holds Tryd.pinned (OpenSpec.ofChange fnExactCanRideSpec)

/-- ITS FALSE NEIGHBOUR: 'it returns false'. Refute it at one input. -/
def fnExactCanRideWrong : ChangeSpec := { name := "fnExactCanRide", vars := ["loop.example/g00935/impl.ticketRules"], fn := fun _ => fun
  | [d1, d2, d3, g1] => { results := [.lit (.bool false)], args := [d1, d2, d3], vars := [g1] }
  | _ => none }
def FnExactCanRideWrongFalsely : Prop := fnExactCanRideRow.holds Tryd.pinned (OpenSpec.ofChange fnExactCanRideWrong)

/-- 'laws.FnExactUseTicket': WHATEVER THE INPUT: true; the input reads as it did. -/
def fnExactUseTicketSpec : ChangeSpec := { name := "fnExactUseTicket", vars := ["loop.example/g00935/impl.ticketRules"], fn := fun _ => fun
  | [d1, d2, d3, d4, g1] => { results := [.lit (.bool true)], args := [d1, d2, d3, d4], vars := [g1] }
  | _ => none }
def fnExactUseTicketRow : OpenClaim := { program := "ytpknodbkjjcdjaadoor", sum := "26c3f416d0532fe95d1de3f6c044159a9773a817c7173650361e81cfe547781e", func := "loop.example/g00935/laws.FnExactUseTicket", spec := "fnExactUseTicket", unfollowed := true, recurses := true, named := ["loop.example/g00935/impl.ticketRules"], apart := false, laid := [("loop.example/g00935/impl.ticketRules", laid_loop_example_g00935_impl_ticketRules)] }
def FnExactUseTicketSaid : Prop := fnExactUseTicketRow.holds Tryd.pinned (OpenSpec.ofChange fnExactUseTicketSpec)

/-- ITS FALSE NEIGHBOUR: 'it returns false'. Refute it at one input. -/
def fnExactUseTicketWrong : ChangeSpec := { name := "fnExactUseTicket", vars := ["loop.example/g00935/impl.ticketRules"], fn := fun _ => fun
  | [d1, d2, d3, d4, g1] => { results := [.lit (.bool false)], args := [d1, d2, d3, d4], vars := [g1] }
  | _ => none }
def FnExactUseTicketWrongFalsely : Prop := fnExactUseTicketRow.holds Tryd.pinned (OpenSpec.ofChange fnExactUseTicketWrong)

/-- 'laws.FnExactSellTicket': WHATEVER THE INPUT: true; the input reads as it did. -/
def fnExactSellTicketSpec : ChangeSpec := { name := "fnExactSellTicket", vars := ["loop.example/g00935/impl.ticketRules"], fn := fun _ => fun
  | [d1, d2, d3, g1] => { results := [.lit (.bool true)], args := [d1, d2, d3], vars := [g1] }
  | _ => none }
def fnExactSellTicketRow : OpenClaim := { program := "ytpknodbkjjcdjaadoor", sum := "26c3f416d0532fe95d1de3f6c044159a9773a817c7173650361e81cfe547781e", func := "loop.example/g00935/laws.FnExactSellTicket", spec := "fnExactSellTicket", unfollowed := true, recurses := true, named := ["loop.example/g00935/impl.ticketRules"], apart := false, laid := [("loop.example/g00935/impl.ticketRules", laid_loop_example_g00935_impl_ticketRules)] }
def FnExactSellTicketSaid : Prop := fnExactSellTicketRow.holds Tryd.pinned (OpenSpec.ofChange fnExactSellTicketSpec)

/-- ITS FALSE NEIGHBOUR: 'it returns false'. Refute it at one input. -/
def fnExactSellTicketWrong : ChangeSpec := { name := "fnExactSellTicket", vars := ["loop.example/g00935/impl.ticketRules"], fn := fun _ => fun
  | [d1, d2, d3, g1] => { results := [.lit (.bool false)], args := [d1, d2, d3], vars := [g1] }
  | _ => none }
def FnExactSellTicketWrongFalsely : Prop := fnExactSellTicketRow.holds Tryd.pinned (OpenSpec.ofChange fnExactSellTicketWrong)

/-- 'laws.FnExactRidesLeft': WHATEVER THE INPUT: true; the input reads as it did. -/
def fnExactRidesLeftSpec : ChangeSpec := { name := "fnExactRidesLeft", vars := ["loop.example/g00935/impl.ticketRules"], fn := fun _ => fun
  | [d1, d2, g1] => { results := [.lit (.bool true)], args := [d1, d2], vars := [g1] }
  | _ => none }
def fnExactRidesLeftRow : OpenClaim := { program := "ytpknodbkjjcdjaadoor", sum := "26c3f416d0532fe95d1de3f6c044159a9773a817c7173650361e81cfe547781e", func := "loop.example/g00935/laws.FnExactRidesLeft", spec := "fnExactRidesLeft", named := ["loop.example/g00935/impl.ticketRules"], apart := false, laid := [("loop.example/g00935/impl.ticketRules", laid_loop_example_g00935_impl_ticketRules)] }
def FnExactRidesLeftSaid : Prop := fnExactRidesLeftRow.holds Tryd.pinned (OpenSpec.ofChange fnExactRidesLeftSpec)

/-- ITS FALSE NEIGHBOUR: 'it returns false'. Refute it at one input. -/
def fnExactRidesLeftWrong : ChangeSpec := { name := "fnExactRidesLeft", vars := ["loop.example/g00935/impl.ticketRules"], fn := fun _ => fun
  | [d1, d2, g1] => { results := [.lit (.bool false)], args := [d1, d2], vars := [g1] }
  | _ => none }
def FnExactRidesLeftWrongFalsely : Prop := fnExactRidesLeftRow.holds Tryd.pinned (OpenSpec.ofChange fnExactRidesLeftWrong)

/-- 'laws.FnExactStillUp': WHATEVER THE INPUT: true; the input reads as it did. -/
def fnExactStillUpSpec : ChangeSpec := { name := "fnExactStillUp", vars := ["loop.example/g00935/impl.ticketRules"], fn := fun _ => fun
  | [d, g1] => { results := [.lit (.bool true)], args := [d], vars := [g1] }
  | _ => none }
def fnExactStillUpRow : OpenClaim := { program := "ytpknodbkjjcdjaadoor", sum := "26c3f416d0532fe95d1de3f6c044159a9773a817c7173650361e81cfe547781e", func := "loop.example/g00935/laws.FnExactStillUp", spec := "fnExactStillUp", unfollowed := true, recurses := true, named := ["loop.example/g00935/impl.ticketRules"], apart := false, laid := [("loop.example/g00935/impl.ticketRules", laid_loop_example_g00935_impl_ticketRules)] }
def FnExactStillUpSaid : Prop := fnExactStillUpRow.holds Tryd.pinned (OpenSpec.ofChange fnExactStillUpSpec)

/-- ITS FALSE NEIGHBOUR: 'it returns false'. Refute it at one input. -/
def fnExactStillUpWrong : ChangeSpec := { name := "fnExactStillUp", vars := ["loop.example/g00935/impl.ticketRules"], fn := fun _ => fun
  | [d, g1] => { results := [.lit (.bool false)], args := [d], vars := [g1] }
  | _ => none }
def FnExactStillUpWrongFalsely : Prop := fnExactStillUpRow.holds Tryd.pinned (OpenSpec.ofChange fnExactStillUpWrong)

/-- 'laws.FnExactSalesOn': WHATEVER THE INPUT: true; the input reads as it did. -/
def fnExactSalesOnSpec : ChangeSpec := { name := "fnExactSalesOn", vars := ["loop.example/g00935/impl.ticketRules"], fn := fun _ => fun
  | [d1, d2, d3, g1] => { results := [.lit (.bool true)], args := [d1, d2, d3], vars := [g1] }
  | _ => none }
def fnExactSalesOnRow : OpenClaim := { program := "ytpknodbkjjcdjaadoor", sum := "26c3f416d0532fe95d1de3f6c044159a9773a817c7173650361e81cfe547781e", func := "loop.example/g00935/laws.FnExactSalesOn", spec := "fnExactSalesOn", unfollowed := true, recurses := true, named := ["loop.example/g00935/impl.ticketRules"], apart := false, laid := [("loop.example/g00935/impl.ticketRules", laid_loop_example_g00935_impl_ticketRules)] }
def FnExactSalesOnSaid : Prop := fnExactSalesOnRow.holds Tryd.pinned (OpenSpec.ofChange fnExactSalesOnSpec)

/-- ITS FALSE NEIGHBOUR: 'it returns false'. Refute it at one input. -/
def fnExactSalesOnWrong : ChangeSpec := { name := "fnExactSalesOn", vars := ["loop.example/g00935/impl.ticketRules"], fn := fun _ => fun
  | [d1, d2, d3, g1] => { results := [.lit (.bool false)], args := [d1, d2, d3], vars := [g1] }
  | _ => none }
def FnExactSalesOnWrongFalsely : Prop := fnExactSalesOnRow.holds Tryd.pinned (OpenSpec.ofChange fnExactSalesOnWrong)

/-- 'laws.FnExactCheapestFor': WHATEVER THE INPUT: true; the input reads as it did. -/
def fnExactCheapestForSpec : ChangeSpec := { name := "fnExactCheapestFor", vars := ["loop.example/g00935/impl.ticketRules"], fn := fun _ => fun
  | [d1, d2, d3, g1] => { results := [.lit (.bool true)], args := [d1, d2, d3], vars := [g1] }
  | _ => none }
def fnExactCheapestForRow : OpenClaim := { program := "ytpknodbkjjcdjaadoor", sum := "26c3f416d0532fe95d1de3f6c044159a9773a817c7173650361e81cfe547781e", func := "loop.example/g00935/laws.FnExactCheapestFor", spec := "fnExactCheapestFor", named := ["loop.example/g00935/impl.ticketRules"], apart := false, laid := [("loop.example/g00935/impl.ticketRules", laid_loop_example_g00935_impl_ticketRules)] }
def FnExactCheapestForSaid : Prop := fnExactCheapestForRow.holds Tryd.pinned (OpenSpec.ofChange fnExactCheapestForSpec)

/-- ITS FALSE NEIGHBOUR: 'it returns false'. Refute it at one input. -/
def fnExactCheapestForWrong : ChangeSpec := { name := "fnExactCheapestFor", vars := ["loop.example/g00935/impl.ticketRules"], fn := fun _ => fun
  | [d1, d2, d3, g1] => { results := [.lit (.bool false)], args := [d1, d2, d3], vars := [g1] }
  | _ => none }
def FnExactCheapestForWrongFalsely : Prop := fnExactCheapestForRow.holds Tryd.pinned (OpenSpec.ofChange fnExactCheapestForWrong)

/-- 'laws.FnExactExpiredOn': WHATEVER THE INPUT: true; the input reads as it did. -/
def fnExactExpiredOnSpec : ChangeSpec := { name := "fnExactExpiredOn", vars := ["loop.example/g00935/impl.ticketRules"], fn := fun _ => fun
  | [d1, d2, g1] => { results := [.lit (.bool true)], args := [d1, d2], vars := [g1] }
  | _ => none }
def fnExactExpiredOnRow : OpenClaim := { program := "ytpknodbkjjcdjaadoor", sum := "26c3f416d0532fe95d1de3f6c044159a9773a817c7173650361e81cfe547781e", func := "loop.example/g00935/laws.FnExactExpiredOn", spec := "fnExactExpiredOn", unfollowed := true, recurses := true, named := ["loop.example/g00935/impl.ticketRules"], apart := false, laid := [("loop.example/g00935/impl.ticketRules", laid_loop_example_g00935_impl_ticketRules)] }
def FnExactExpiredOnSaid : Prop := fnExactExpiredOnRow.holds Tryd.pinned (OpenSpec.ofChange fnExactExpiredOnSpec)

/-- ITS FALSE NEIGHBOUR: 'it returns false'. Refute it at one input. -/
def fnExactExpiredOnWrong : ChangeSpec := { name := "fnExactExpiredOn", vars := ["loop.example/g00935/impl.ticketRules"], fn := fun _ => fun
  | [d1, d2, g1] => { results := [.lit (.bool false)], args := [d1, d2], vars := [g1] }
  | _ => none }
def FnExactExpiredOnWrongFalsely : Prop := fnExactExpiredOnRow.holds Tryd.pinned (OpenSpec.ofChange fnExactExpiredOnWrong)

/- THE SECOND FORM. 'bulk': how many values and letters a reading holds, each counted each time it is reached (what is shared counts as often as it is met; a slice's spare places count too). A statement '..UptoSaid' is the law's where the arguments, and the package variables that the reading takes, are together of bulk at most 1048576: NARROWER than '..Said'. Prove '..Said' where nothing that the law and all that it calls make is longer than what came in: it says more and counts as full. Else prove '..UptoSaid'. A law counts once. -/
mutual
def uptoBulk {H : Type} : DataW H → Nat
  | .lit (.string bytes) => bytes.length + 1
  | .lit _ => 1
  | .nil => 1
  | .ptr d => uptoBulk d + 1
  | .slice elems spare => uptoBulkAll elems + uptoBulkAll spare + 1
  | .agg parts => uptoBulkAll parts + 1
  | .iface _ d => uptoBulk d + 1
  | .map entries => uptoBulkEntries entries + 1
  | .held _ => 1
def uptoBulkAll {H : Type} : List (DataW H) → Nat
  | [] => 0
  | d :: r => uptoBulk d + uptoBulkAll r
def uptoBulkEntries {H : Type} : List (Lit × DataW H) → Nat
  | [] => 0
  | x :: r => uptoBulkEntry x + uptoBulkEntries r
def uptoBulkEntry {H : Type} : Lit × DataW H → Nat
  | (.string bytes, d) => bytes.length + uptoBulk d + 1
  | (_, d) => uptoBulk d + 1
 end
def uptoSmall : (H : Type) → List (DataW H) → Bool := fun _ ds => decide (uptoBulkAll ds ≤ 1048576)
def OpenSpec.upto (s : _root_.Go.ChangeSpec) : _root_.Go.OpenSpec := { _root_.Go.OpenSpec.ofChange s with cond := some uptoSmall }

/-- 'laws.FnTickets', WHERE WHAT IT READS IS OF BULK AT MOST 1048576: true; the input reads as it did. -/
def fnTicketsUptoRow : OpenClaim := { program := "ytpknodbkjjcdjaadoor", sum := "26c3f416d0532fe95d1de3f6c044159a9773a817c7173650361e81cfe547781e", func := "loop.example/g00935/laws.FnTickets", spec := "fnTickets", unfollowed := true, recurses := true, named := ["loop.example/g00935/impl.ticketRules"], apart := false, laid := [("loop.example/g00935/impl.ticketRules", laid_loop_example_g00935_impl_ticketRules)], narrowed := true }
def FnTicketsUptoSaid : Prop := fnTicketsUptoRow.holds Tryd.pinned (OpenSpec.upto fnTicketsSpec)

/-- 'laws.FnPrices', WHERE WHAT IT READS IS OF BULK AT MOST 1048576: true; the input reads as it did. -/
def fnPricesUptoRow : OpenClaim := { program := "ytpknodbkjjcdjaadoor", sum := "26c3f416d0532fe95d1de3f6c044159a9773a817c7173650361e81cfe547781e", func := "loop.example/g00935/laws.FnPrices", spec := "fnPrices", unfollowed := true, recurses := true, named := ["loop.example/g00935/impl.ticketRules"], apart := false, laid := [("loop.example/g00935/impl.ticketRules", laid_loop_example_g00935_impl_ticketRules)], narrowed := true }
def FnPricesUptoSaid : Prop := fnPricesUptoRow.holds Tryd.pinned (OpenSpec.upto fnPricesSpec)

/-- 'laws.FnExactIsTicket', WHERE WHAT IT READS IS OF BULK AT MOST 1048576: true; the input reads as it did. -/
def fnExactIsTicketUptoRow : OpenClaim := { program := "ytpknodbkjjcdjaadoor", sum := "26c3f416d0532fe95d1de3f6c044159a9773a817c7173650361e81cfe547781e", func := "loop.example/g00935/laws.FnExactIsTicket", spec := "fnExactIsTicket", named := ["loop.example/g00935/impl.ticketRules"], apart := false, laid := [("loop.example/g00935/impl.ticketRules", laid_loop_example_g00935_impl_ticketRules)], narrowed := true }
def FnExactIsTicketUptoSaid : Prop := fnExactIsTicketUptoRow.holds Tryd.pinned (OpenSpec.upto fnExactIsTicketSpec)

/-- 'laws.FnExactAreTickets', WHERE WHAT IT READS IS OF BULK AT MOST 1048576: true; the input reads as it did. -/
def fnExactAreTicketsUptoRow : OpenClaim := { program := "ytpknodbkjjcdjaadoor", sum := "26c3f416d0532fe95d1de3f6c044159a9773a817c7173650361e81cfe547781e", func := "loop.example/g00935/laws.FnExactAreTickets", spec := "fnExactAreTickets", unfollowed := true, recurses := true, named := ["loop.example/g00935/impl.ticketRules"], apart := false, laid := [("loop.example/g00935/impl.ticketRules", laid_loop_example_g00935_impl_ticketRules)], narrowed := true }
def FnExactAreTicketsUptoSaid : Prop := fnExactAreTicketsUptoRow.holds Tryd.pinned (OpenSpec.upto fnExactAreTicketsSpec)

/-- 'laws.FnExactCanRide', WHERE WHAT IT READS IS OF BULK AT MOST 1048576: true; the input reads as it did. -/
def fnExactCanRideUptoRow : OpenClaim := { program := "ytpknodbkjjcdjaadoor", sum := "26c3f416d0532fe95d1de3f6c044159a9773a817c7173650361e81cfe547781e", func := "loop.example/g00935/laws.FnExactCanRide", spec := "fnExactCanRide", named := ["loop.example/g00935/impl.ticketRules"], apart := false, laid := [("loop.example/g00935/impl.ticketRules", laid_loop_example_g00935_impl_ticketRules)], narrowed := true }
def FnExactCanRideUptoSaid : Prop := fnExactCanRideUptoRow.holds Tryd.pinned (OpenSpec.upto fnExactCanRideSpec)

/-- 'laws.FnExactUseTicket', WHERE WHAT IT READS IS OF BULK AT MOST 1048576: true; the input reads as it did. -/
def fnExactUseTicketUptoRow : OpenClaim := { program := "ytpknodbkjjcdjaadoor", sum := "26c3f416d0532fe95d1de3f6c044159a9773a817c7173650361e81cfe547781e", func := "loop.example/g00935/laws.FnExactUseTicket", spec := "fnExactUseTicket", unfollowed := true, recurses := true, named := ["loop.example/g00935/impl.ticketRules"], apart := false, laid := [("loop.example/g00935/impl.ticketRules", laid_loop_example_g00935_impl_ticketRules)], narrowed := true }
def FnExactUseTicketUptoSaid : Prop := fnExactUseTicketUptoRow.holds Tryd.pinned (OpenSpec.upto fnExactUseTicketSpec)

/-- 'laws.FnExactSellTicket', WHERE WHAT IT READS IS OF BULK AT MOST 1048576: true; the input reads as it did. -/
def fnExactSellTicketUptoRow : OpenClaim := { program := "ytpknodbkjjcdjaadoor", sum := "26c3f416d0532fe95d1de3f6c044159a9773a817c7173650361e81cfe547781e", func := "loop.example/g00935/laws.FnExactSellTicket", spec := "fnExactSellTicket", unfollowed := true, recurses := true, named := ["loop.example/g00935/impl.ticketRules"], apart := false, laid := [("loop.example/g00935/impl.ticketRules", laid_loop_example_g00935_impl_ticketRules)], narrowed := true }
def FnExactSellTicketUptoSaid : Prop := fnExactSellTicketUptoRow.holds Tryd.pinned (OpenSpec.upto fnExactSellTicketSpec)

/-- 'laws.FnExactRidesLeft', WHERE WHAT IT READS IS OF BULK AT MOST 1048576: true; the input reads as it did. -/
def fnExactRidesLeftUptoRow : OpenClaim := { program := "ytpknodbkjjcdjaadoor", sum := "26c3f416d0532fe95d1de3f6c044159a9773a817c7173650361e81cfe547781e", func := "loop.example/g00935/laws.FnExactRidesLeft", spec := "fnExactRidesLeft", named := ["loop.example/g00935/impl.ticketRules"], apart := false, laid := [("loop.example/g00935/impl.ticketRules", laid_loop_example_g00935_impl_ticketRules)], narrowed := true }
def FnExactRidesLeftUptoSaid : Prop := fnExactRidesLeftUptoRow.holds Tryd.pinned (OpenSpec.upto fnExactRidesLeftSpec)

/-- 'laws.FnExactStillUp', WHERE WHAT IT READS IS OF BULK AT MOST 1048576: true; the input reads as it did. -/
def fnExactStillUpUptoRow : OpenClaim := { program := "ytpknodbkjjcdjaadoor", sum := "26c3f416d0532fe95d1de3f6c044159a9773a817c7173650361e81cfe547781e", func := "loop.example/g00935/laws.FnExactStillUp", spec := "fnExactStillUp", unfollowed := true, recurses := true, named := ["loop.example/g00935/impl.ticketRules"], apart := false, laid := [("loop.example/g00935/impl.ticketRules", laid_loop_example_g00935_impl_ticketRules)], narrowed := true }
def FnExactStillUpUptoSaid : Prop := fnExactStillUpUptoRow.holds Tryd.pinned (OpenSpec.upto fnExactStillUpSpec)

/-- 'laws.FnExactSalesOn', WHERE WHAT IT READS IS OF BULK AT MOST 1048576: true; the input reads as it did. -/
def fnExactSalesOnUptoRow : OpenClaim := { program := "ytpknodbkjjcdjaadoor", sum := "26c3f416d0532fe95d1de3f6c044159a9773a817c7173650361e81cfe547781e", func := "loop.example/g00935/laws.FnExactSalesOn", spec := "fnExactSalesOn", unfollowed := true, recurses := true, named := ["loop.example/g00935/impl.ticketRules"], apart := false, laid := [("loop.example/g00935/impl.ticketRules", laid_loop_example_g00935_impl_ticketRules)], narrowed := true }
def FnExactSalesOnUptoSaid : Prop := fnExactSalesOnUptoRow.holds Tryd.pinned (OpenSpec.upto fnExactSalesOnSpec)

/-- 'laws.FnExactCheapestFor', WHERE WHAT IT READS IS OF BULK AT MOST 1048576: true; the input reads as it did. -/
def fnExactCheapestForUptoRow : OpenClaim := { program := "ytpknodbkjjcdjaadoor", sum := "26c3f416d0532fe95d1de3f6c044159a9773a817c7173650361e81cfe547781e", func := "loop.example/g00935/laws.FnExactCheapestFor", spec := "fnExactCheapestFor", named := ["loop.example/g00935/impl.ticketRules"], apart := false, laid := [("loop.example/g00935/impl.ticketRules", laid_loop_example_g00935_impl_ticketRules)], narrowed := true }
def FnExactCheapestForUptoSaid : Prop := fnExactCheapestForUptoRow.holds Tryd.pinned (OpenSpec.upto fnExactCheapestForSpec)

/-- 'laws.FnExactExpiredOn', WHERE WHAT IT READS IS OF BULK AT MOST 1048576: true; the input reads as it did. -/
def fnExactExpiredOnUptoRow : OpenClaim := { program := "ytpknodbkjjcdjaadoor", sum := "26c3f416d0532fe95d1de3f6c044159a9773a817c7173650361e81cfe547781e", func := "loop.example/g00935/laws.FnExactExpiredOn", spec := "fnExactExpiredOn", unfollowed := true, recurses := true, named := ["loop.example/g00935/impl.ticketRules"], apart := false, laid := [("loop.example/g00935/impl.ticketRules", laid_loop_example_g00935_impl_ticketRules)], narrowed := true }
def FnExactExpiredOnUptoSaid : Prop := fnExactExpiredOnUptoRow.holds Tryd.pinned (OpenSpec.upto fnExactExpiredOnSpec)

end Rows
end Go.Proofs.YtpknodbkjjcdjaaDoor
