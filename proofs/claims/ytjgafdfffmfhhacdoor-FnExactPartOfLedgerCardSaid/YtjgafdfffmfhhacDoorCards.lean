/-
  DERIVED. GIVEN WITH THE SEED: THE CARDS: each row of YtjgafdfffmfhhacDoorRows.lean that lists a variable, with what it lists TIED to the program's text (the seventh form; the later family's looks); each row that meets fmt, with fmt's text TOLD by the authors' own Lean function (tested against real Go, not proved from fmt's source: count such statements apart). THE CARD IS WHAT COUNTS. Prove the row's statement (the work); the ties are given (YtjgafdfffmfhhacDoorTie.lean); close each card by the builder's one call (the guide's Derived/Test/ToyasCard.lean, 'card_holds'). Laid BY PROGRAM, IN A SANDBOX (cutbox-door.mjs). By AI agents, Wed Nov 11 2026. No macro, syntax, notation, axiom, sorry.
-/
import Derived.Test.YtjgafdfffmfhhacDoorRows
import GoSem.ClaimSeven
namespace Go.Proofs.YtjgafdfffmfhhacDoor
namespace Rows

/-- THE TIED CARD OF 'laws.FnExactPartOfLedger'. -/
def fnExactPartOfLedgerCard : Claim7 := { stood := { row := fnExactPartOfLedgerRow, standIns := [], harness := (true, "5938da84a023cb5a48c4dafb4a35042c082bdc7ec710d558307e595059b46783"), looks := true }, kinds := [], alts := [], laidByText := true, laidKinds := [.sentinel, .sentinel, .sentinel, .sentinel, .sentinel, .sentinel, .sentinel], laidTests := true, laidLooks := .later }
def FnExactPartOfLedgerCardSaid : Prop := Claim7.holds Tryd.pinned (.plain (OpenSpec.ofChange fnExactPartOfLedgerSpec)) fnExactPartOfLedgerCard

/-- THE TIED CARD OF 'laws.FnExactMissingIn'. -/
def fnExactMissingInCard : Claim7 := { stood := { row := fnExactMissingInRow, standIns := [], harness := (true, "5938da84a023cb5a48c4dafb4a35042c082bdc7ec710d558307e595059b46783"), looks := true }, kinds := [], alts := [], laidByText := true, laidKinds := [.sentinel, .sentinel, .sentinel, .sentinel, .sentinel, .sentinel], laidTests := true, laidLooks := .later }
def FnExactMissingInCardSaid : Prop := Claim7.holds Tryd.pinned (.plain (OpenSpec.ofChange fnExactMissingInSpec)) fnExactMissingInCard

/-- THE TIED CARD OF 'laws.FnExactMergeLedgers'. -/
def fnExactMergeLedgersCard : Claim7 := { stood := { row := fnExactMergeLedgersRow, standIns := [], harness := (true, "5938da84a023cb5a48c4dafb4a35042c082bdc7ec710d558307e595059b46783"), looks := true }, kinds := [], alts := [], laidByText := true, laidKinds := [.sentinel, .sentinel, .sentinel, .sentinel, .sentinel, .sentinel, .sentinel], laidTests := true, laidLooks := .later }
def FnExactMergeLedgersCardSaid : Prop := Claim7.holds Tryd.pinned (.plain (OpenSpec.ofChange fnExactMergeLedgersSpec)) fnExactMergeLedgersCard

/-- THE TIED CARD OF 'laws.FnExactApplyEntry'. -/
def fnExactApplyEntryCard : Claim7 := { stood := { row := fnExactApplyEntryRow, standIns := [], harness := (true, "5938da84a023cb5a48c4dafb4a35042c082bdc7ec710d558307e595059b46783"), looks := true }, kinds := [], alts := [], laidByText := true, laidKinds := [.sentinel, .sentinel, .sentinel, .sentinel, .sentinel, .sentinel, .sentinel], laidTests := true, laidLooks := .later }
def FnExactApplyEntryCardSaid : Prop := Claim7.holds Tryd.pinned (.plain (OpenSpec.ofChange fnExactApplyEntrySpec)) fnExactApplyEntryCard

/-- THE SECOND FORM's CARD OF 'laws.FnExactPartOfLedger'. -/
def fnExactPartOfLedgerUptoCard : Claim7 := { stood := { row := fnExactPartOfLedgerUptoRow, standIns := [], harness := (true, "5938da84a023cb5a48c4dafb4a35042c082bdc7ec710d558307e595059b46783"), looks := true }, kinds := [], alts := [], laidByText := true, laidKinds := [.sentinel, .sentinel, .sentinel, .sentinel, .sentinel, .sentinel, .sentinel], laidTests := true, laidLooks := .later }
def FnExactPartOfLedgerUptoCardSaid : Prop := Claim7.holds Tryd.pinned (.plain (OpenSpec.upto fnExactPartOfLedgerSpec)) fnExactPartOfLedgerUptoCard

/-- THE SECOND FORM's CARD OF 'laws.FnExactMissingIn'. -/
def fnExactMissingInUptoCard : Claim7 := { stood := { row := fnExactMissingInUptoRow, standIns := [], harness := (true, "5938da84a023cb5a48c4dafb4a35042c082bdc7ec710d558307e595059b46783"), looks := true }, kinds := [], alts := [], laidByText := true, laidKinds := [.sentinel, .sentinel, .sentinel, .sentinel, .sentinel, .sentinel], laidTests := true, laidLooks := .later }
def FnExactMissingInUptoCardSaid : Prop := Claim7.holds Tryd.pinned (.plain (OpenSpec.upto fnExactMissingInSpec)) fnExactMissingInUptoCard

/-- THE SECOND FORM's CARD OF 'laws.FnExactMergeLedgers'. -/
def fnExactMergeLedgersUptoCard : Claim7 := { stood := { row := fnExactMergeLedgersUptoRow, standIns := [], harness := (true, "5938da84a023cb5a48c4dafb4a35042c082bdc7ec710d558307e595059b46783"), looks := true }, kinds := [], alts := [], laidByText := true, laidKinds := [.sentinel, .sentinel, .sentinel, .sentinel, .sentinel, .sentinel, .sentinel], laidTests := true, laidLooks := .later }
def FnExactMergeLedgersUptoCardSaid : Prop := Claim7.holds Tryd.pinned (.plain (OpenSpec.upto fnExactMergeLedgersSpec)) fnExactMergeLedgersUptoCard

/-- THE SECOND FORM's CARD OF 'laws.FnExactApplyEntry'. -/
def fnExactApplyEntryUptoCard : Claim7 := { stood := { row := fnExactApplyEntryUptoRow, standIns := [], harness := (true, "5938da84a023cb5a48c4dafb4a35042c082bdc7ec710d558307e595059b46783"), looks := true }, kinds := [], alts := [], laidByText := true, laidKinds := [.sentinel, .sentinel, .sentinel, .sentinel, .sentinel, .sentinel, .sentinel], laidTests := true, laidLooks := .later }
def FnExactApplyEntryUptoCardSaid : Prop := Claim7.holds Tryd.pinned (.plain (OpenSpec.upto fnExactApplyEntrySpec)) fnExactApplyEntryUptoCard
end Rows
end Go.Proofs.YtjgafdfffmfhhacDoor
