/-
  DERIVED. GIVEN WITH THE SEED: THE CARDS: each row of YtjiihdljchaeiafDoorRows.lean that lists a variable, with what it lists TIED to the program's text (the seventh form; the later family's looks); each row that meets fmt, with fmt's text TOLD by the authors' own Lean function (tested against real Go, not proved from fmt's source: count such statements apart). THE CARD IS WHAT COUNTS. Prove the row's statement (the work); the ties are given (YtjiihdljchaeiafDoorTie.lean); close each card by the builder's one call (the guide's Derived/Test/ToyasCard.lean, 'card_holds'). Laid BY PROGRAM, IN A SANDBOX (cutbox-door.mjs). By AI agents, Wed Nov 11 2026. No macro, syntax, notation, axiom, sorry.
-/
import Derived.Test.YtjiihdljchaeiafDoorRows
import GoSem.ClaimSeven
namespace Go.Proofs.YtjiihdljchaeiafDoor
namespace Rows

/-- THE TIED CARD OF 'laws.FnExactTipOf'. -/
def fnExactTipOfCard : Claim7 := { stood := { row := fnExactTipOfRow, standIns := [], harness := (true, "9e9c3480a0ae119c33c92adc083ab7d9ee742b05bcb1b7fb9d102cb29e6f1cf3"), looks := true }, kinds := [], alts := [], laidByText := true, laidKinds := [.sentinel, .sentinel, .sentinel, .sentinel, .sentinel, .sentinel, .sentinel], laidTests := true, laidLooks := .later }
def FnExactTipOfCardSaid : Prop := Claim7.holds Tryd.pinned (.plain (OpenSpec.ofChange fnExactTipOfSpec)) fnExactTipOfCard

/-- THE TIED CARD OF 'laws.FnExactFewestCrates'. -/
def fnExactFewestCratesCard : Claim7 := { stood := { row := fnExactFewestCratesRow, standIns := [], harness := (true, "9e9c3480a0ae119c33c92adc083ab7d9ee742b05bcb1b7fb9d102cb29e6f1cf3"), looks := true }, kinds := [], alts := [], laidByText := true, laidKinds := [.sentinel, .sentinel, .sentinel, .sentinel, .sentinel, .sentinel], laidTests := true, laidLooks := .later }
def FnExactFewestCratesCardSaid : Prop := Claim7.holds Tryd.pinned (.plain (OpenSpec.ofChange fnExactFewestCratesSpec)) fnExactFewestCratesCard

/-- THE TIED CARD OF 'laws.FnExactGrossOf'. -/
def fnExactGrossOfCard : Claim7 := { stood := { row := fnExactGrossOfRow, standIns := [], harness := (true, "9e9c3480a0ae119c33c92adc083ab7d9ee742b05bcb1b7fb9d102cb29e6f1cf3"), looks := true }, kinds := [], alts := [], laidByText := true, laidKinds := [.sentinel, .sentinel, .sentinel, .sentinel, .sentinel, .sentinel], laidTests := true, laidLooks := .later }
def FnExactGrossOfCardSaid : Prop := Claim7.holds Tryd.pinned (.plain (OpenSpec.ofChange fnExactGrossOfSpec)) fnExactGrossOfCard

/-- THE TIED CARD OF 'laws.FnExactWantedIn'. -/
def fnExactWantedInCard : Claim7 := { stood := { row := fnExactWantedInRow, standIns := [], harness := (true, "9e9c3480a0ae119c33c92adc083ab7d9ee742b05bcb1b7fb9d102cb29e6f1cf3"), looks := true }, kinds := [], alts := [], laidByText := true, laidKinds := [.sentinel, .sentinel, .sentinel, .sentinel, .sentinel, .sentinel, .sentinel], laidTests := true, laidLooks := .later }
def FnExactWantedInCardSaid : Prop := Claim7.holds Tryd.pinned (.plain (OpenSpec.ofChange fnExactWantedInSpec)) fnExactWantedInCard

/-- THE SECOND FORM's CARD OF 'laws.FnExactTipOf'. -/
def fnExactTipOfUptoCard : Claim7 := { stood := { row := fnExactTipOfUptoRow, standIns := [], harness := (true, "9e9c3480a0ae119c33c92adc083ab7d9ee742b05bcb1b7fb9d102cb29e6f1cf3"), looks := true }, kinds := [], alts := [], laidByText := true, laidKinds := [.sentinel, .sentinel, .sentinel, .sentinel, .sentinel, .sentinel, .sentinel], laidTests := true, laidLooks := .later }
def FnExactTipOfUptoCardSaid : Prop := Claim7.holds Tryd.pinned (.plain (OpenSpec.upto fnExactTipOfSpec)) fnExactTipOfUptoCard

/-- THE SECOND FORM's CARD OF 'laws.FnExactFewestCrates'. -/
def fnExactFewestCratesUptoCard : Claim7 := { stood := { row := fnExactFewestCratesUptoRow, standIns := [], harness := (true, "9e9c3480a0ae119c33c92adc083ab7d9ee742b05bcb1b7fb9d102cb29e6f1cf3"), looks := true }, kinds := [], alts := [], laidByText := true, laidKinds := [.sentinel, .sentinel, .sentinel, .sentinel, .sentinel, .sentinel], laidTests := true, laidLooks := .later }
def FnExactFewestCratesUptoCardSaid : Prop := Claim7.holds Tryd.pinned (.plain (OpenSpec.upto fnExactFewestCratesSpec)) fnExactFewestCratesUptoCard

/-- THE SECOND FORM's CARD OF 'laws.FnExactGrossOf'. -/
def fnExactGrossOfUptoCard : Claim7 := { stood := { row := fnExactGrossOfUptoRow, standIns := [], harness := (true, "9e9c3480a0ae119c33c92adc083ab7d9ee742b05bcb1b7fb9d102cb29e6f1cf3"), looks := true }, kinds := [], alts := [], laidByText := true, laidKinds := [.sentinel, .sentinel, .sentinel, .sentinel, .sentinel, .sentinel], laidTests := true, laidLooks := .later }
def FnExactGrossOfUptoCardSaid : Prop := Claim7.holds Tryd.pinned (.plain (OpenSpec.upto fnExactGrossOfSpec)) fnExactGrossOfUptoCard

/-- THE SECOND FORM's CARD OF 'laws.FnExactWantedIn'. -/
def fnExactWantedInUptoCard : Claim7 := { stood := { row := fnExactWantedInUptoRow, standIns := [], harness := (true, "9e9c3480a0ae119c33c92adc083ab7d9ee742b05bcb1b7fb9d102cb29e6f1cf3"), looks := true }, kinds := [], alts := [], laidByText := true, laidKinds := [.sentinel, .sentinel, .sentinel, .sentinel, .sentinel, .sentinel, .sentinel], laidTests := true, laidLooks := .later }
def FnExactWantedInUptoCardSaid : Prop := Claim7.holds Tryd.pinned (.plain (OpenSpec.upto fnExactWantedInSpec)) fnExactWantedInUptoCard
end Rows
end Go.Proofs.YtjiihdljchaeiafDoor
