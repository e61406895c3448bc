/-
  DERIVED. GIVEN WITH THE SEED: THE CARDS: each row of YtpjmkcgofmfdaacDoorRows.lean that lists a variable, with what it lists TIED to the program's text (the seventh form; the later family's looks); each row that meets fmt, with fmt's text TOLD by the authors' own Lean function (tested against real Go, not proved from fmt's source: count such statements apart). THE CARD IS WHAT COUNTS. Prove the row's statement (the work); the ties are given (YtpjmkcgofmfdaacDoorTie.lean); close each card by the builder's one call (the guide's Derived/Test/ToyasCard.lean, 'card_holds'). Laid BY PROGRAM, IN A SANDBOX (cutbox-door.mjs). By AI agents, Wed Nov 11 2026. No macro, syntax, notation, axiom, sorry.
-/
import Derived.Test.YtpjmkcgofmfdaacDoorRows
import GoSem.ClaimSeven
namespace Go.Proofs.YtpjmkcgofmfdaacDoor
namespace Rows

/-- THE TIED CARD OF 'laws.FnExactValidRack'. -/
def fnExactValidRackCard : Claim7 := { stood := { row := fnExactValidRackRow, standIns := [], harness := (true, "f1d0ded601c1a20640acf9b4f6b3822af166f545b8ad290b4d563198b2ff7f1a"), looks := true }, kinds := [], alts := [], laidByText := true, laidKinds := [.sentinel], laidTests := true, laidLooks := .later }
def FnExactValidRackCardSaid : Prop := Claim7.holds Tryd.pinned (.plain (OpenSpec.ofChange fnExactValidRackSpec)) fnExactValidRackCard

/-- THE TIED CARD OF 'laws.FnExactStoredIn'. -/
def fnExactStoredInCard : Claim7 := { stood := { row := fnExactStoredInRow, standIns := [], harness := (true, "f1d0ded601c1a20640acf9b4f6b3822af166f545b8ad290b4d563198b2ff7f1a"), looks := true }, kinds := [], alts := [], laidByText := true, laidKinds := [.sentinel, .sentinel, .sentinel, .sentinel, .sentinel, .sentinel, .sentinel], laidTests := true, laidLooks := .later }
def FnExactStoredInCardSaid : Prop := Claim7.holds Tryd.pinned (.plain (OpenSpec.ofChange fnExactStoredInSpec)) fnExactStoredInCard

/-- THE TIED CARD OF 'laws.FnExactFreeIn'. -/
def fnExactFreeInCard : Claim7 := { stood := { row := fnExactFreeInRow, standIns := [], harness := (true, "f1d0ded601c1a20640acf9b4f6b3822af166f545b8ad290b4d563198b2ff7f1a"), looks := true }, kinds := [], alts := [], laidByText := true, laidKinds := [.sentinel, .sentinel, .sentinel, .sentinel, .sentinel, .sentinel, .sentinel], laidTests := true, laidLooks := .later }
def FnExactFreeInCardSaid : Prop := Claim7.holds Tryd.pinned (.plain (OpenSpec.ofChange fnExactFreeInSpec)) fnExactFreeInCard

/-- THE TIED CARD OF 'laws.FnExactAheadOf'. -/
def fnExactAheadOfCard : Claim7 := { stood := { row := fnExactAheadOfRow, standIns := [], harness := (true, "f1d0ded601c1a20640acf9b4f6b3822af166f545b8ad290b4d563198b2ff7f1a"), looks := true }, kinds := [], alts := [], laidByText := true, laidKinds := [.sentinel, .sentinel, .sentinel, .sentinel, .sentinel, .sentinel, .sentinel], laidTests := true, laidLooks := .later }
def FnExactAheadOfCardSaid : Prop := Claim7.holds Tryd.pinned (.plain (OpenSpec.ofChange fnExactAheadOfSpec)) fnExactAheadOfCard

/-- THE SECOND FORM's CARD OF 'laws.FnExactValidRack'. -/
def fnExactValidRackUptoCard : Claim7 := { stood := { row := fnExactValidRackUptoRow, standIns := [], harness := (true, "f1d0ded601c1a20640acf9b4f6b3822af166f545b8ad290b4d563198b2ff7f1a"), looks := true }, kinds := [], alts := [], laidByText := true, laidKinds := [.sentinel], laidTests := true, laidLooks := .later }
def FnExactValidRackUptoCardSaid : Prop := Claim7.holds Tryd.pinned (.plain (OpenSpec.upto fnExactValidRackSpec)) fnExactValidRackUptoCard

/-- THE SECOND FORM's CARD OF 'laws.FnExactStoredIn'. -/
def fnExactStoredInUptoCard : Claim7 := { stood := { row := fnExactStoredInUptoRow, standIns := [], harness := (true, "f1d0ded601c1a20640acf9b4f6b3822af166f545b8ad290b4d563198b2ff7f1a"), looks := true }, kinds := [], alts := [], laidByText := true, laidKinds := [.sentinel, .sentinel, .sentinel, .sentinel, .sentinel, .sentinel, .sentinel], laidTests := true, laidLooks := .later }
def FnExactStoredInUptoCardSaid : Prop := Claim7.holds Tryd.pinned (.plain (OpenSpec.upto fnExactStoredInSpec)) fnExactStoredInUptoCard

/-- THE SECOND FORM's CARD OF 'laws.FnExactFreeIn'. -/
def fnExactFreeInUptoCard : Claim7 := { stood := { row := fnExactFreeInUptoRow, standIns := [], harness := (true, "f1d0ded601c1a20640acf9b4f6b3822af166f545b8ad290b4d563198b2ff7f1a"), looks := true }, kinds := [], alts := [], laidByText := true, laidKinds := [.sentinel, .sentinel, .sentinel, .sentinel, .sentinel, .sentinel, .sentinel], laidTests := true, laidLooks := .later }
def FnExactFreeInUptoCardSaid : Prop := Claim7.holds Tryd.pinned (.plain (OpenSpec.upto fnExactFreeInSpec)) fnExactFreeInUptoCard

/-- THE SECOND FORM's CARD OF 'laws.FnExactAheadOf'. -/
def fnExactAheadOfUptoCard : Claim7 := { stood := { row := fnExactAheadOfUptoRow, standIns := [], harness := (true, "f1d0ded601c1a20640acf9b4f6b3822af166f545b8ad290b4d563198b2ff7f1a"), looks := true }, kinds := [], alts := [], laidByText := true, laidKinds := [.sentinel, .sentinel, .sentinel, .sentinel, .sentinel, .sentinel, .sentinel], laidTests := true, laidLooks := .later }
def FnExactAheadOfUptoCardSaid : Prop := Claim7.holds Tryd.pinned (.plain (OpenSpec.upto fnExactAheadOfSpec)) fnExactAheadOfUptoCard
end Rows
end Go.Proofs.YtpjmkcgofmfdaacDoor
