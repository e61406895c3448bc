/-
  DERIVED. GIVEN WITH THE SEED: THE CARDS: each row of YtjiihdljchaeiadDoorRows.lean that lists a variable, with what it lists TIED to the program's text (the seventh form; the later family's looks); each row that meets fmt, with fmt's text TOLD by the authors' own Lean function (tested against real Go, not proved from fmt's source: count such statements apart). THE CARD IS WHAT COUNTS. Prove the row's statement (the work); the ties are given (YtjiihdljchaeiadDoorTie.lean); close each card by the builder's one call (the guide's Derived/Test/ToyasCard.lean, 'card_holds'). Laid BY PROGRAM, IN A SANDBOX (cutbox-door.mjs). By AI agents, Wed Nov 11 2026. No macro, syntax, notation, axiom, sorry.
-/
import Derived.Test.YtjiihdljchaeiadDoorRows
import GoSem.ClaimSeven
namespace Go.Proofs.YtjiihdljchaeiadDoor
namespace Rows

/-- THE TIED CARD OF 'laws.FnExactPutBottle'. -/
def fnExactPutBottleCard : Claim7 := { stood := { row := fnExactPutBottleRow, standIns := [], harness := (true, "2bc591f4d2f62dbd1fc91a1381c07e26b06ad54de8418bcbe3f9ca9cd24dd515"), looks := true }, kinds := [], alts := [], laidByText := true, laidKinds := [.sentinel, .sentinel, .sentinel, .sentinel, .sentinel, .sentinel, .sentinel], laidTests := true, laidLooks := .later }
def FnExactPutBottleCardSaid : Prop := Claim7.holds Tryd.pinned (.plain (OpenSpec.ofChange fnExactPutBottleSpec)) fnExactPutBottleCard

/-- THE TIED CARD OF 'laws.FnExactTakeBottle'. -/
def fnExactTakeBottleCard : Claim7 := { stood := { row := fnExactTakeBottleRow, standIns := [], harness := (true, "2bc591f4d2f62dbd1fc91a1381c07e26b06ad54de8418bcbe3f9ca9cd24dd515"), looks := true }, kinds := [], alts := [], laidByText := true, laidKinds := [.sentinel, .sentinel, .sentinel, .sentinel, .sentinel, .sentinel, .sentinel], laidTests := true, laidLooks := .later }
def FnExactTakeBottleCardSaid : Prop := Claim7.holds Tryd.pinned (.plain (OpenSpec.ofChange fnExactTakeBottleSpec)) fnExactTakeBottleCard

/-- THE TIED CARD OF 'laws.FnExactAddBottle'. -/
def fnExactAddBottleCard : Claim7 := { stood := { row := fnExactAddBottleRow, standIns := [], harness := (true, "2bc591f4d2f62dbd1fc91a1381c07e26b06ad54de8418bcbe3f9ca9cd24dd515"), looks := true }, kinds := [], alts := [], laidByText := true, laidKinds := [.sentinel, .sentinel, .sentinel, .sentinel, .sentinel, .sentinel, .sentinel], laidTests := true, laidLooks := .later }
def FnExactAddBottleCardSaid : Prop := Claim7.holds Tryd.pinned (.plain (OpenSpec.ofChange fnExactAddBottleSpec)) fnExactAddBottleCard

/-- THE TIED CARD OF 'laws.FnExactPlaceOf'. -/
def fnExactPlaceOfCard : Claim7 := { stood := { row := fnExactPlaceOfRow, standIns := [], harness := (true, "2bc591f4d2f62dbd1fc91a1381c07e26b06ad54de8418bcbe3f9ca9cd24dd515"), looks := true }, kinds := [], alts := [], laidByText := true, laidKinds := [.sentinel, .sentinel, .sentinel, .sentinel, .sentinel, .sentinel, .sentinel], laidTests := true, laidLooks := .later }
def FnExactPlaceOfCardSaid : Prop := Claim7.holds Tryd.pinned (.plain (OpenSpec.ofChange fnExactPlaceOfSpec)) fnExactPlaceOfCard

/-- THE SECOND FORM's CARD OF 'laws.FnExactPutBottle'. -/
def fnExactPutBottleUptoCard : Claim7 := { stood := { row := fnExactPutBottleUptoRow, standIns := [], harness := (true, "2bc591f4d2f62dbd1fc91a1381c07e26b06ad54de8418bcbe3f9ca9cd24dd515"), looks := true }, kinds := [], alts := [], laidByText := true, laidKinds := [.sentinel, .sentinel, .sentinel, .sentinel, .sentinel, .sentinel, .sentinel], laidTests := true, laidLooks := .later }
def FnExactPutBottleUptoCardSaid : Prop := Claim7.holds Tryd.pinned (.plain (OpenSpec.upto fnExactPutBottleSpec)) fnExactPutBottleUptoCard

/-- THE SECOND FORM's CARD OF 'laws.FnExactTakeBottle'. -/
def fnExactTakeBottleUptoCard : Claim7 := { stood := { row := fnExactTakeBottleUptoRow, standIns := [], harness := (true, "2bc591f4d2f62dbd1fc91a1381c07e26b06ad54de8418bcbe3f9ca9cd24dd515"), looks := true }, kinds := [], alts := [], laidByText := true, laidKinds := [.sentinel, .sentinel, .sentinel, .sentinel, .sentinel, .sentinel, .sentinel], laidTests := true, laidLooks := .later }
def FnExactTakeBottleUptoCardSaid : Prop := Claim7.holds Tryd.pinned (.plain (OpenSpec.upto fnExactTakeBottleSpec)) fnExactTakeBottleUptoCard

/-- THE SECOND FORM's CARD OF 'laws.FnExactAddBottle'. -/
def fnExactAddBottleUptoCard : Claim7 := { stood := { row := fnExactAddBottleUptoRow, standIns := [], harness := (true, "2bc591f4d2f62dbd1fc91a1381c07e26b06ad54de8418bcbe3f9ca9cd24dd515"), looks := true }, kinds := [], alts := [], laidByText := true, laidKinds := [.sentinel, .sentinel, .sentinel, .sentinel, .sentinel, .sentinel, .sentinel], laidTests := true, laidLooks := .later }
def FnExactAddBottleUptoCardSaid : Prop := Claim7.holds Tryd.pinned (.plain (OpenSpec.upto fnExactAddBottleSpec)) fnExactAddBottleUptoCard

/-- THE SECOND FORM's CARD OF 'laws.FnExactPlaceOf'. -/
def fnExactPlaceOfUptoCard : Claim7 := { stood := { row := fnExactPlaceOfUptoRow, standIns := [], harness := (true, "2bc591f4d2f62dbd1fc91a1381c07e26b06ad54de8418bcbe3f9ca9cd24dd515"), looks := true }, kinds := [], alts := [], laidByText := true, laidKinds := [.sentinel, .sentinel, .sentinel, .sentinel, .sentinel, .sentinel, .sentinel], laidTests := true, laidLooks := .later }
def FnExactPlaceOfUptoCardSaid : Prop := Claim7.holds Tryd.pinned (.plain (OpenSpec.upto fnExactPlaceOfSpec)) fnExactPlaceOfUptoCard
end Rows
end Go.Proofs.YtjiihdljchaeiadDoor
