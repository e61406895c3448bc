/-
  DERIVED. GIVEN WITH THE SEED: THE CARDS: each row of YtcdoablhnlkkmaaDoorRows.lean that lists a variable, with what it lists TIED to the program's text (the seventh form; the later family's looks); each row that meets fmt, with fmt's text TOLD by the authors' own Lean function (tested against real Go, not proved from fmt's source: count such statements apart). THE CARD IS WHAT COUNTS. Prove the row's statement (the work); the ties are given (YtcdoablhnlkkmaaDoorTie.lean); close each card by the builder's one call (the guide's Derived/Test/ToyasCard.lean, 'card_holds'). Laid BY PROGRAM, IN A SANDBOX (cutbox-door.mjs). By AI agents, Wed Nov 11 2026. No macro, syntax, notation, axiom, sorry.
-/
import Derived.Test.YtcdoablhnlkkmaaDoorRows
import GoSem.ClaimSeven
namespace Go.Proofs.YtcdoablhnlkkmaaDoor
namespace Rows

/-- THE TIED CARD OF 'laws.FnExactCheckPayments'. -/
def fnExactCheckPaymentsCard : Claim7 := { stood := { row := fnExactCheckPaymentsRow, standIns := [], harness := (true, "4a292466ddb9fd34b53552c63f3dced633d0f665b5bfd344817b4f62514e9986"), looks := true }, kinds := [], alts := [], laidByText := true, laidKinds := [.sentinel, .sentinel, .sentinel, .sentinel, .sentinel, .sentinel, .sentinel], laidTests := true, laidLooks := .later }
def FnExactCheckPaymentsCardSaid : Prop := Claim7.holds Tryd.pinned (.plain (OpenSpec.ofChange fnExactCheckPaymentsSpec)) fnExactCheckPaymentsCard

/-- THE TIED CARD OF 'laws.FnExactApplyEntry'. -/
def fnExactApplyEntryCard : Claim7 := { stood := { row := fnExactApplyEntryRow, standIns := [], harness := (true, "4a292466ddb9fd34b53552c63f3dced633d0f665b5bfd344817b4f62514e9986"), looks := true }, kinds := [], alts := [], laidByText := true, laidKinds := [.sentinel, .sentinel, .sentinel, .sentinel, .sentinel, .sentinel, .sentinel], laidTests := true, laidLooks := .later }
def FnExactApplyEntryCardSaid : Prop := Claim7.holds Tryd.pinned (.plain (OpenSpec.ofChange fnExactApplyEntrySpec)) fnExactApplyEntryCard

/-- THE TIED CARD OF 'laws.FnExactReplayLedger'. -/
def fnExactReplayLedgerCard : Claim7 := { stood := { row := fnExactReplayLedgerRow, standIns := [], harness := (true, "4a292466ddb9fd34b53552c63f3dced633d0f665b5bfd344817b4f62514e9986"), looks := true }, kinds := [], alts := [], laidByText := true, laidKinds := [.sentinel, .sentinel, .sentinel, .sentinel, .sentinel, .sentinel, .sentinel], laidTests := true, laidLooks := .later }
def FnExactReplayLedgerCardSaid : Prop := Claim7.holds Tryd.pinned (.plain (OpenSpec.ofChange fnExactReplayLedgerSpec)) fnExactReplayLedgerCard

/-- THE TIED CARD OF 'laws.FnExactFirstWrong'. -/
def fnExactFirstWrongCard : Claim7 := { stood := { row := fnExactFirstWrongRow, standIns := [], harness := (true, "4a292466ddb9fd34b53552c63f3dced633d0f665b5bfd344817b4f62514e9986"), looks := true }, kinds := [], alts := [], laidByText := true, laidKinds := [.handle, .sentinel, .sentinel, .sentinel, .sentinel, .sentinel, .sentinel, .sentinel], laidTests := true, laidLooks := .later }
def FnExactFirstWrongCardSaid : Prop := Claim7.holds Tryd.pinned (.plain (OpenSpec.ofChange fnExactFirstWrongSpec)) fnExactFirstWrongCard

/-- THE SECOND FORM's CARD OF 'laws.FnExactCheckPayments'. -/
def fnExactCheckPaymentsUptoCard : Claim7 := { stood := { row := fnExactCheckPaymentsUptoRow, standIns := [], harness := (true, "4a292466ddb9fd34b53552c63f3dced633d0f665b5bfd344817b4f62514e9986"), looks := true }, kinds := [], alts := [], laidByText := true, laidKinds := [.sentinel, .sentinel, .sentinel, .sentinel, .sentinel, .sentinel, .sentinel], laidTests := true, laidLooks := .later }
def FnExactCheckPaymentsUptoCardSaid : Prop := Claim7.holds Tryd.pinned (.plain (OpenSpec.upto fnExactCheckPaymentsSpec)) fnExactCheckPaymentsUptoCard

/-- THE SECOND FORM's CARD OF 'laws.FnExactApplyEntry'. -/
def fnExactApplyEntryUptoCard : Claim7 := { stood := { row := fnExactApplyEntryUptoRow, standIns := [], harness := (true, "4a292466ddb9fd34b53552c63f3dced633d0f665b5bfd344817b4f62514e9986"), looks := true }, kinds := [], alts := [], laidByText := true, laidKinds := [.sentinel, .sentinel, .sentinel, .sentinel, .sentinel, .sentinel, .sentinel], laidTests := true, laidLooks := .later }
def FnExactApplyEntryUptoCardSaid : Prop := Claim7.holds Tryd.pinned (.plain (OpenSpec.upto fnExactApplyEntrySpec)) fnExactApplyEntryUptoCard

/-- THE SECOND FORM's CARD OF 'laws.FnExactReplayLedger'. -/
def fnExactReplayLedgerUptoCard : Claim7 := { stood := { row := fnExactReplayLedgerUptoRow, standIns := [], harness := (true, "4a292466ddb9fd34b53552c63f3dced633d0f665b5bfd344817b4f62514e9986"), looks := true }, kinds := [], alts := [], laidByText := true, laidKinds := [.sentinel, .sentinel, .sentinel, .sentinel, .sentinel, .sentinel, .sentinel], laidTests := true, laidLooks := .later }
def FnExactReplayLedgerUptoCardSaid : Prop := Claim7.holds Tryd.pinned (.plain (OpenSpec.upto fnExactReplayLedgerSpec)) fnExactReplayLedgerUptoCard

/-- THE SECOND FORM's CARD OF 'laws.FnExactFirstWrong'. -/
def fnExactFirstWrongUptoCard : Claim7 := { stood := { row := fnExactFirstWrongUptoRow, standIns := [], harness := (true, "4a292466ddb9fd34b53552c63f3dced633d0f665b5bfd344817b4f62514e9986"), looks := true }, kinds := [], alts := [], laidByText := true, laidKinds := [.handle, .sentinel, .sentinel, .sentinel, .sentinel, .sentinel, .sentinel, .sentinel], laidTests := true, laidLooks := .later }
def FnExactFirstWrongUptoCardSaid : Prop := Claim7.holds Tryd.pinned (.plain (OpenSpec.upto fnExactFirstWrongSpec)) fnExactFirstWrongUptoCard
end Rows
end Go.Proofs.YtcdoablhnlkkmaaDoor
