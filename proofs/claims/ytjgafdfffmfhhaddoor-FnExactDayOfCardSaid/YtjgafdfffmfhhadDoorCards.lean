/-
  DERIVED. GIVEN WITH THE SEED: THE CARDS: each row of YtjgafdfffmfhhadDoorRows.lean that lists a variable, with what it lists TIED to the program's text (the seventh form; the later family's looks); each row that meets fmt, with fmt's text TOLD by the authors' own Lean function (tested against real Go, not proved from fmt's source: count such statements apart). THE CARD IS WHAT COUNTS. Prove the row's statement (the work); the ties are given (YtjgafdfffmfhhadDoorTie.lean); close each card by the builder's one call (the guide's Derived/Test/ToyasCard.lean, 'card_holds'). Laid BY PROGRAM, IN A SANDBOX (cutbox-door.mjs). By AI agents, Wed Nov 11 2026. No macro, syntax, notation, axiom, sorry.
-/
import Derived.Test.YtjgafdfffmfhhadDoorRows
import GoSem.ClaimSeven
namespace Go.Proofs.YtjgafdfffmfhhadDoor
namespace Rows

/-- THE TIED CARD OF 'laws.FnExactReplayLedger'. -/
def fnExactReplayLedgerCard : Claim7 := { stood := { row := fnExactReplayLedgerRow, standIns := [], harness := (true, "1957a77be41b631d324a232776736c8f43b88a10a32481eaada0afff5859e5fa"), looks := true }, kinds := [], alts := [], laidByText := true, laidKinds := [.sentinel, .sentinel, .sentinel, .sentinel, .sentinel, .sentinel, .sentinel], laidTests := true, laidLooks := .later }
def FnExactReplayLedgerCardSaid : Prop := Claim7.holds Tryd.pinned (.plain (OpenSpec.ofChange fnExactReplayLedgerSpec)) fnExactReplayLedgerCard

/-- THE TIED CARD OF 'laws.FnExactFirstWrong'. -/
def fnExactFirstWrongCard : Claim7 := { stood := { row := fnExactFirstWrongRow, standIns := [], harness := (true, "1957a77be41b631d324a232776736c8f43b88a10a32481eaada0afff5859e5fa"), looks := true }, kinds := [], alts := [], laidByText := true, laidKinds := [.handle, .sentinel, .sentinel, .sentinel, .sentinel, .sentinel, .sentinel, .sentinel], laidTests := true, laidLooks := .later }
def FnExactFirstWrongCardSaid : Prop := Claim7.holds Tryd.pinned (.plain (OpenSpec.ofChange fnExactFirstWrongSpec)) fnExactFirstWrongCard

/-- THE TIED CARD OF 'laws.FnExactCheckPayments'. -/
def fnExactCheckPaymentsCard : Claim7 := { stood := { row := fnExactCheckPaymentsRow, standIns := [], harness := (true, "1957a77be41b631d324a232776736c8f43b88a10a32481eaada0afff5859e5fa"), looks := true }, kinds := [], alts := [], laidByText := true, laidKinds := [.sentinel, .sentinel, .sentinel, .sentinel, .sentinel, .sentinel, .sentinel], laidTests := true, laidLooks := .later }
def FnExactCheckPaymentsCardSaid : Prop := Claim7.holds Tryd.pinned (.plain (OpenSpec.ofChange fnExactCheckPaymentsSpec)) fnExactCheckPaymentsCard

/-- THE TIED CARD OF 'laws.FnExactDayOf'. -/
def fnExactDayOfCard : Claim7 := { stood := { row := fnExactDayOfRow, standIns := [], harness := (true, "1957a77be41b631d324a232776736c8f43b88a10a32481eaada0afff5859e5fa"), looks := true }, kinds := [], alts := [], laidByText := true, laidKinds := [.sentinel, .sentinel, .sentinel, .sentinel, .sentinel, .sentinel, .sentinel], laidTests := true, laidLooks := .later }
def FnExactDayOfCardSaid : Prop := Claim7.holds Tryd.pinned (.plain (OpenSpec.ofChange fnExactDayOfSpec)) fnExactDayOfCard

/-- THE SECOND FORM's CARD OF 'laws.FnExactReplayLedger'. -/
def fnExactReplayLedgerUptoCard : Claim7 := { stood := { row := fnExactReplayLedgerUptoRow, standIns := [], harness := (true, "1957a77be41b631d324a232776736c8f43b88a10a32481eaada0afff5859e5fa"), looks := true }, kinds := [], alts := [], laidByText := true, laidKinds := [.sentinel, .sentinel, .sentinel, .sentinel, .sentinel, .sentinel, .sentinel], laidTests := true, laidLooks := .later }
def FnExactReplayLedgerUptoCardSaid : Prop := Claim7.holds Tryd.pinned (.plain (OpenSpec.upto fnExactReplayLedgerSpec)) fnExactReplayLedgerUptoCard

/-- THE SECOND FORM's CARD OF 'laws.FnExactFirstWrong'. -/
def fnExactFirstWrongUptoCard : Claim7 := { stood := { row := fnExactFirstWrongUptoRow, standIns := [], harness := (true, "1957a77be41b631d324a232776736c8f43b88a10a32481eaada0afff5859e5fa"), looks := true }, kinds := [], alts := [], laidByText := true, laidKinds := [.handle, .sentinel, .sentinel, .sentinel, .sentinel, .sentinel, .sentinel, .sentinel], laidTests := true, laidLooks := .later }
def FnExactFirstWrongUptoCardSaid : Prop := Claim7.holds Tryd.pinned (.plain (OpenSpec.upto fnExactFirstWrongSpec)) fnExactFirstWrongUptoCard

/-- THE SECOND FORM's CARD OF 'laws.FnExactCheckPayments'. -/
def fnExactCheckPaymentsUptoCard : Claim7 := { stood := { row := fnExactCheckPaymentsUptoRow, standIns := [], harness := (true, "1957a77be41b631d324a232776736c8f43b88a10a32481eaada0afff5859e5fa"), looks := true }, kinds := [], alts := [], laidByText := true, laidKinds := [.sentinel, .sentinel, .sentinel, .sentinel, .sentinel, .sentinel, .sentinel], laidTests := true, laidLooks := .later }
def FnExactCheckPaymentsUptoCardSaid : Prop := Claim7.holds Tryd.pinned (.plain (OpenSpec.upto fnExactCheckPaymentsSpec)) fnExactCheckPaymentsUptoCard

/-- THE SECOND FORM's CARD OF 'laws.FnExactDayOf'. -/
def fnExactDayOfUptoCard : Claim7 := { stood := { row := fnExactDayOfUptoRow, standIns := [], harness := (true, "1957a77be41b631d324a232776736c8f43b88a10a32481eaada0afff5859e5fa"), looks := true }, kinds := [], alts := [], laidByText := true, laidKinds := [.sentinel, .sentinel, .sentinel, .sentinel, .sentinel, .sentinel, .sentinel], laidTests := true, laidLooks := .later }
def FnExactDayOfUptoCardSaid : Prop := Claim7.holds Tryd.pinned (.plain (OpenSpec.upto fnExactDayOfSpec)) fnExactDayOfUptoCard
end Rows
end Go.Proofs.YtjgafdfffmfhhadDoor
