/-
  DERIVED. GIVEN WITH THE SEED: THE CARDS: each row of YtcmeaiejnghpeaaDoorRows.lean that lists a variable, with what it lists TIED to the program's text (the seventh form; the later family's looks); each row that meets fmt, with fmt's text TOLD by the authors' own Lean function (tested against real Go, not proved from fmt's source: count such statements apart). THE CARD IS WHAT COUNTS. Prove the row's statement (the work); the ties are given (YtcmeaiejnghpeaaDoorTie.lean); close each card by the builder's one call (the guide's Derived/Test/ToyasCard.lean, 'card_holds'). Laid BY PROGRAM, IN A SANDBOX (cutbox-door.mjs). By AI agents, Wed Nov 11 2026. No macro, syntax, notation, axiom, sorry.
-/
import Derived.Test.YtcmeaiejnghpeaaDoorRows
import GoSem.ClaimSeven
namespace Go.Proofs.YtcmeaiejnghpeaaDoor
namespace Rows

/-- THE TIED CARD OF 'laws.FnExactFewestCrates'. -/
def fnExactFewestCratesCard : Claim7 := { stood := { row := fnExactFewestCratesRow, standIns := [], harness := (true, "03ae8674b4d1bf4810deb3456f7296cfa7018e46f63b057af0241b32a1c32078"), looks := true }, kinds := [], alts := [], laidByText := true, laidKinds := [.sentinel, .sentinel, .sentinel, .sentinel, .sentinel], laidTests := true, laidLooks := .later }
def FnExactFewestCratesCardSaid : Prop := Claim7.holds Tryd.pinned (.plain (OpenSpec.ofChange fnExactFewestCratesSpec)) fnExactFewestCratesCard

/-- THE TIED CARD OF 'laws.FnExactGrossOf'. -/
def fnExactGrossOfCard : Claim7 := { stood := { row := fnExactGrossOfRow, standIns := [], harness := (true, "03ae8674b4d1bf4810deb3456f7296cfa7018e46f63b057af0241b32a1c32078"), looks := true }, kinds := [], alts := [], laidByText := true, laidKinds := [.sentinel, .sentinel, .sentinel, .sentinel, .sentinel], laidTests := true, laidLooks := .later }
def FnExactGrossOfCardSaid : Prop := Claim7.holds Tryd.pinned (.plain (OpenSpec.ofChange fnExactGrossOfSpec)) fnExactGrossOfCard

/-- THE TIED CARD OF 'laws.FnExactPutBottle'. -/
def fnExactPutBottleCard : Claim7 := { stood := { row := fnExactPutBottleRow, standIns := [], harness := (true, "03ae8674b4d1bf4810deb3456f7296cfa7018e46f63b057af0241b32a1c32078"), looks := true }, kinds := [], alts := [], laidByText := true, laidKinds := [.sentinel, .sentinel, .sentinel, .sentinel, .sentinel, .sentinel], laidTests := true, laidLooks := .later }
def FnExactPutBottleCardSaid : Prop := Claim7.holds Tryd.pinned (.plain (OpenSpec.ofChange fnExactPutBottleSpec)) fnExactPutBottleCard

/-- THE TIED CARD OF 'laws.FnExactTakeBottle'. -/
def fnExactTakeBottleCard : Claim7 := { stood := { row := fnExactTakeBottleRow, standIns := [], harness := (true, "03ae8674b4d1bf4810deb3456f7296cfa7018e46f63b057af0241b32a1c32078"), looks := true }, kinds := [], alts := [], laidByText := true, laidKinds := [.sentinel, .sentinel, .sentinel, .sentinel, .sentinel, .sentinel], laidTests := true, laidLooks := .later }
def FnExactTakeBottleCardSaid : Prop := Claim7.holds Tryd.pinned (.plain (OpenSpec.ofChange fnExactTakeBottleSpec)) fnExactTakeBottleCard

/-- THE TIED CARD OF 'laws.FnExactFreePlaces'. -/
def fnExactFreePlacesCard : Claim7 := { stood := { row := fnExactFreePlacesRow, standIns := [], harness := (true, "03ae8674b4d1bf4810deb3456f7296cfa7018e46f63b057af0241b32a1c32078"), looks := true }, kinds := [], alts := [], laidByText := true, laidKinds := [.sentinel, .sentinel, .sentinel, .sentinel, .sentinel, .sentinel], laidTests := true, laidLooks := .later }
def FnExactFreePlacesCardSaid : Prop := Claim7.holds Tryd.pinned (.plain (OpenSpec.ofChange fnExactFreePlacesSpec)) fnExactFreePlacesCard

/-- THE TIED CARD OF 'laws.FnExactBottlesIn'. -/
def fnExactBottlesInCard : Claim7 := { stood := { row := fnExactBottlesInRow, standIns := [], harness := (true, "03ae8674b4d1bf4810deb3456f7296cfa7018e46f63b057af0241b32a1c32078"), looks := true }, kinds := [], alts := [], laidByText := true, laidKinds := [.sentinel, .sentinel, .sentinel, .sentinel, .sentinel, .sentinel], laidTests := true, laidLooks := .later }
def FnExactBottlesInCardSaid : Prop := Claim7.holds Tryd.pinned (.plain (OpenSpec.ofChange fnExactBottlesInSpec)) fnExactBottlesInCard

/-- THE TIED CARD OF 'laws.FnExactBottleText'. -/
def fnExactBottleTextCard : Claim7 := { stood := { row := fnExactBottleTextRow, standIns := [], harness := (true, "03ae8674b4d1bf4810deb3456f7296cfa7018e46f63b057af0241b32a1c32078"), looks := true }, kinds := [], alts := [], laidByText := true, laidKinds := [.data, .data, .data], laidTests := true, laidLooks := .later }
def FnExactBottleTextCardSaid : Prop := Claim7.holds Tryd.pinned (.plain (OpenSpec.ofChange fnExactBottleTextSpec)) fnExactBottleTextCard

/-- THE SECOND FORM's CARD OF 'laws.FnExactFewestCrates'. -/
def fnExactFewestCratesUptoCard : Claim7 := { stood := { row := fnExactFewestCratesUptoRow, standIns := [], harness := (true, "03ae8674b4d1bf4810deb3456f7296cfa7018e46f63b057af0241b32a1c32078"), looks := true }, kinds := [], alts := [], laidByText := true, laidKinds := [.sentinel, .sentinel, .sentinel, .sentinel, .sentinel], laidTests := true, laidLooks := .later }
def FnExactFewestCratesUptoCardSaid : Prop := Claim7.holds Tryd.pinned (.plain (OpenSpec.upto fnExactFewestCratesSpec)) fnExactFewestCratesUptoCard

/-- THE SECOND FORM's CARD OF 'laws.FnExactGrossOf'. -/
def fnExactGrossOfUptoCard : Claim7 := { stood := { row := fnExactGrossOfUptoRow, standIns := [], harness := (true, "03ae8674b4d1bf4810deb3456f7296cfa7018e46f63b057af0241b32a1c32078"), looks := true }, kinds := [], alts := [], laidByText := true, laidKinds := [.sentinel, .sentinel, .sentinel, .sentinel, .sentinel], laidTests := true, laidLooks := .later }
def FnExactGrossOfUptoCardSaid : Prop := Claim7.holds Tryd.pinned (.plain (OpenSpec.upto fnExactGrossOfSpec)) fnExactGrossOfUptoCard

/-- THE SECOND FORM's CARD OF 'laws.FnExactPutBottle'. -/
def fnExactPutBottleUptoCard : Claim7 := { stood := { row := fnExactPutBottleUptoRow, standIns := [], harness := (true, "03ae8674b4d1bf4810deb3456f7296cfa7018e46f63b057af0241b32a1c32078"), looks := true }, kinds := [], alts := [], laidByText := true, laidKinds := [.sentinel, .sentinel, .sentinel, .sentinel, .sentinel, .sentinel], laidTests := true, laidLooks := .later }
def FnExactPutBottleUptoCardSaid : Prop := Claim7.holds Tryd.pinned (.plain (OpenSpec.upto fnExactPutBottleSpec)) fnExactPutBottleUptoCard

/-- THE SECOND FORM's CARD OF 'laws.FnExactTakeBottle'. -/
def fnExactTakeBottleUptoCard : Claim7 := { stood := { row := fnExactTakeBottleUptoRow, standIns := [], harness := (true, "03ae8674b4d1bf4810deb3456f7296cfa7018e46f63b057af0241b32a1c32078"), looks := true }, kinds := [], alts := [], laidByText := true, laidKinds := [.sentinel, .sentinel, .sentinel, .sentinel, .sentinel, .sentinel], laidTests := true, laidLooks := .later }
def FnExactTakeBottleUptoCardSaid : Prop := Claim7.holds Tryd.pinned (.plain (OpenSpec.upto fnExactTakeBottleSpec)) fnExactTakeBottleUptoCard

/-- THE SECOND FORM's CARD OF 'laws.FnExactFreePlaces'. -/
def fnExactFreePlacesUptoCard : Claim7 := { stood := { row := fnExactFreePlacesUptoRow, standIns := [], harness := (true, "03ae8674b4d1bf4810deb3456f7296cfa7018e46f63b057af0241b32a1c32078"), looks := true }, kinds := [], alts := [], laidByText := true, laidKinds := [.sentinel, .sentinel, .sentinel, .sentinel, .sentinel, .sentinel], laidTests := true, laidLooks := .later }
def FnExactFreePlacesUptoCardSaid : Prop := Claim7.holds Tryd.pinned (.plain (OpenSpec.upto fnExactFreePlacesSpec)) fnExactFreePlacesUptoCard

/-- THE SECOND FORM's CARD OF 'laws.FnExactBottlesIn'. -/
def fnExactBottlesInUptoCard : Claim7 := { stood := { row := fnExactBottlesInUptoRow, standIns := [], harness := (true, "03ae8674b4d1bf4810deb3456f7296cfa7018e46f63b057af0241b32a1c32078"), looks := true }, kinds := [], alts := [], laidByText := true, laidKinds := [.sentinel, .sentinel, .sentinel, .sentinel, .sentinel, .sentinel], laidTests := true, laidLooks := .later }
def FnExactBottlesInUptoCardSaid : Prop := Claim7.holds Tryd.pinned (.plain (OpenSpec.upto fnExactBottlesInSpec)) fnExactBottlesInUptoCard

/-- THE SECOND FORM's CARD OF 'laws.FnExactBottleText'. -/
def fnExactBottleTextUptoCard : Claim7 := { stood := { row := fnExactBottleTextUptoRow, standIns := [], harness := (true, "03ae8674b4d1bf4810deb3456f7296cfa7018e46f63b057af0241b32a1c32078"), looks := true }, kinds := [], alts := [], laidByText := true, laidKinds := [.data, .data, .data], laidTests := true, laidLooks := .later }
def FnExactBottleTextUptoCardSaid : Prop := Claim7.holds Tryd.pinned (.plain (OpenSpec.upto fnExactBottleTextSpec)) fnExactBottleTextUptoCard
end Rows
end Go.Proofs.YtcmeaiejnghpeaaDoor
