/-
  DERIVED. GIVEN WITH THE SEED: THE CARDS: each row of YtmonflmgnaamdaaDoorRows.lean that lists a variable, with what it lists TIED to the program's text (the seventh form; the later family's looks); each row that meets fmt, with fmt's text TOLD by the authors' own Lean function (tested against real Go, not proved from fmt's source: count such statements apart). THE CARD IS WHAT COUNTS. Prove the row's statement (the work); the ties are given (YtmonflmgnaamdaaDoorTie.lean); close each card by the builder's one call (the guide's Derived/Test/ToyasCard.lean, 'card_holds'). Laid BY PROGRAM, IN A SANDBOX (cutbox-door.mjs). By AI agents, Wed Nov 11 2026. No macro, syntax, notation, axiom, sorry.
-/
import Derived.Test.YtmonflmgnaamdaaDoorRows
import GoSem.ClaimSeven
namespace Go.Proofs.YtmonflmgnaamdaaDoor
namespace Rows

/-- THE TIED CARD OF 'laws.FnExactFreePlaces'. -/
def fnExactFreePlacesCard : Claim7 := { stood := { row := fnExactFreePlacesRow, standIns := [], harness := (true, "283f6d9d941643ac4b13d1fb73fbb5baea45783aeed411615f014c78182f5680"), looks := true }, kinds := [], alts := [], laidByText := true, laidKinds := [.sentinel, .sentinel, .sentinel, .sentinel, .sentinel, .sentinel], laidTests := true, laidLooks := .later }
def FnExactFreePlacesCardSaid : Prop := Claim7.holds Tryd.pinned (.plain (OpenSpec.ofChange fnExactFreePlacesSpec)) fnExactFreePlacesCard

/-- THE TIED CARD OF 'laws.FnExactBottlesIn'. -/
def fnExactBottlesInCard : Claim7 := { stood := { row := fnExactBottlesInRow, standIns := [], harness := (true, "283f6d9d941643ac4b13d1fb73fbb5baea45783aeed411615f014c78182f5680"), looks := true }, kinds := [], alts := [], laidByText := true, laidKinds := [.sentinel, .sentinel, .sentinel, .sentinel, .sentinel, .sentinel], laidTests := true, laidLooks := .later }
def FnExactBottlesInCardSaid : Prop := Claim7.holds Tryd.pinned (.plain (OpenSpec.ofChange fnExactBottlesInSpec)) fnExactBottlesInCard

/-- THE TIED CARD OF 'laws.FnExactAddBottle'. -/
def fnExactAddBottleCard : Claim7 := { stood := { row := fnExactAddBottleRow, standIns := [], harness := (true, "283f6d9d941643ac4b13d1fb73fbb5baea45783aeed411615f014c78182f5680"), looks := true }, kinds := [], alts := [], laidByText := true, laidKinds := [.sentinel, .sentinel, .sentinel, .sentinel, .sentinel, .sentinel], laidTests := true, laidLooks := .later }
def FnExactAddBottleCardSaid : Prop := Claim7.holds Tryd.pinned (.plain (OpenSpec.ofChange fnExactAddBottleSpec)) fnExactAddBottleCard

/-- THE TIED CARD OF 'laws.FnExactPlaceOf'. -/
def fnExactPlaceOfCard : Claim7 := { stood := { row := fnExactPlaceOfRow, standIns := [], harness := (true, "283f6d9d941643ac4b13d1fb73fbb5baea45783aeed411615f014c78182f5680"), looks := true }, kinds := [], alts := [], laidByText := true, laidKinds := [.sentinel, .sentinel, .sentinel, .sentinel, .sentinel, .sentinel], laidTests := true, laidLooks := .later }
def FnExactPlaceOfCardSaid : Prop := Claim7.holds Tryd.pinned (.plain (OpenSpec.ofChange fnExactPlaceOfSpec)) fnExactPlaceOfCard

/-- THE TIED CARD OF 'laws.FnExactFillFrom'. -/
def fnExactFillFromCard : Claim7 := { stood := { row := fnExactFillFromRow, standIns := [], harness := (true, "283f6d9d941643ac4b13d1fb73fbb5baea45783aeed411615f014c78182f5680"), looks := true }, kinds := [], alts := [], laidByText := true, laidKinds := [.sentinel, .sentinel, .sentinel, .sentinel, .sentinel, .sentinel], laidTests := true, laidLooks := .later }
def FnExactFillFromCardSaid : Prop := Claim7.holds Tryd.pinned (.plain (OpenSpec.ofChange fnExactFillFromSpec)) fnExactFillFromCard

/-- THE TIED CARD OF 'laws.FnExactBottleText'. -/
def fnExactBottleTextCard : Claim7 := { stood := { row := fnExactBottleTextRow, standIns := [], harness := (true, "283f6d9d941643ac4b13d1fb73fbb5baea45783aeed411615f014c78182f5680"), looks := true }, kinds := [], alts := [], laidByText := true, laidKinds := [.data, .data, .data], laidTests := true, laidLooks := .later }
def FnExactBottleTextCardSaid : Prop := Claim7.holds Tryd.pinned (.plain (OpenSpec.ofChange fnExactBottleTextSpec)) fnExactBottleTextCard

/-- THE TIED CARD OF 'laws.FnExactWantedIn'. -/
def fnExactWantedInCard : Claim7 := { stood := { row := fnExactWantedInRow, standIns := [], harness := (true, "283f6d9d941643ac4b13d1fb73fbb5baea45783aeed411615f014c78182f5680"), looks := true }, kinds := [], alts := [], laidByText := true, laidKinds := [.sentinel, .sentinel, .sentinel, .sentinel, .sentinel, .sentinel], laidTests := true, laidLooks := .later }
def FnExactWantedInCardSaid : Prop := Claim7.holds Tryd.pinned (.plain (OpenSpec.ofChange fnExactWantedInSpec)) fnExactWantedInCard

/-- THE SECOND FORM's CARD OF 'laws.FnExactFreePlaces'. -/
def fnExactFreePlacesUptoCard : Claim7 := { stood := { row := fnExactFreePlacesUptoRow, standIns := [], harness := (true, "283f6d9d941643ac4b13d1fb73fbb5baea45783aeed411615f014c78182f5680"), looks := true }, kinds := [], alts := [], laidByText := true, laidKinds := [.sentinel, .sentinel, .sentinel, .sentinel, .sentinel, .sentinel], laidTests := true, laidLooks := .later }
def FnExactFreePlacesUptoCardSaid : Prop := Claim7.holds Tryd.pinned (.plain (OpenSpec.upto fnExactFreePlacesSpec)) fnExactFreePlacesUptoCard

/-- THE SECOND FORM's CARD OF 'laws.FnExactBottlesIn'. -/
def fnExactBottlesInUptoCard : Claim7 := { stood := { row := fnExactBottlesInUptoRow, standIns := [], harness := (true, "283f6d9d941643ac4b13d1fb73fbb5baea45783aeed411615f014c78182f5680"), looks := true }, kinds := [], alts := [], laidByText := true, laidKinds := [.sentinel, .sentinel, .sentinel, .sentinel, .sentinel, .sentinel], laidTests := true, laidLooks := .later }
def FnExactBottlesInUptoCardSaid : Prop := Claim7.holds Tryd.pinned (.plain (OpenSpec.upto fnExactBottlesInSpec)) fnExactBottlesInUptoCard

/-- THE SECOND FORM's CARD OF 'laws.FnExactAddBottle'. -/
def fnExactAddBottleUptoCard : Claim7 := { stood := { row := fnExactAddBottleUptoRow, standIns := [], harness := (true, "283f6d9d941643ac4b13d1fb73fbb5baea45783aeed411615f014c78182f5680"), looks := true }, kinds := [], alts := [], laidByText := true, laidKinds := [.sentinel, .sentinel, .sentinel, .sentinel, .sentinel, .sentinel], laidTests := true, laidLooks := .later }
def FnExactAddBottleUptoCardSaid : Prop := Claim7.holds Tryd.pinned (.plain (OpenSpec.upto fnExactAddBottleSpec)) fnExactAddBottleUptoCard

/-- THE SECOND FORM's CARD OF 'laws.FnExactPlaceOf'. -/
def fnExactPlaceOfUptoCard : Claim7 := { stood := { row := fnExactPlaceOfUptoRow, standIns := [], harness := (true, "283f6d9d941643ac4b13d1fb73fbb5baea45783aeed411615f014c78182f5680"), looks := true }, kinds := [], alts := [], laidByText := true, laidKinds := [.sentinel, .sentinel, .sentinel, .sentinel, .sentinel, .sentinel], laidTests := true, laidLooks := .later }
def FnExactPlaceOfUptoCardSaid : Prop := Claim7.holds Tryd.pinned (.plain (OpenSpec.upto fnExactPlaceOfSpec)) fnExactPlaceOfUptoCard

/-- THE SECOND FORM's CARD OF 'laws.FnExactFillFrom'. -/
def fnExactFillFromUptoCard : Claim7 := { stood := { row := fnExactFillFromUptoRow, standIns := [], harness := (true, "283f6d9d941643ac4b13d1fb73fbb5baea45783aeed411615f014c78182f5680"), looks := true }, kinds := [], alts := [], laidByText := true, laidKinds := [.sentinel, .sentinel, .sentinel, .sentinel, .sentinel, .sentinel], laidTests := true, laidLooks := .later }
def FnExactFillFromUptoCardSaid : Prop := Claim7.holds Tryd.pinned (.plain (OpenSpec.upto fnExactFillFromSpec)) fnExactFillFromUptoCard

/-- THE SECOND FORM's CARD OF 'laws.FnExactBottleText'. -/
def fnExactBottleTextUptoCard : Claim7 := { stood := { row := fnExactBottleTextUptoRow, standIns := [], harness := (true, "283f6d9d941643ac4b13d1fb73fbb5baea45783aeed411615f014c78182f5680"), looks := true }, kinds := [], alts := [], laidByText := true, laidKinds := [.data, .data, .data], laidTests := true, laidLooks := .later }
def FnExactBottleTextUptoCardSaid : Prop := Claim7.holds Tryd.pinned (.plain (OpenSpec.upto fnExactBottleTextSpec)) fnExactBottleTextUptoCard

/-- THE SECOND FORM's CARD OF 'laws.FnExactWantedIn'. -/
def fnExactWantedInUptoCard : Claim7 := { stood := { row := fnExactWantedInUptoRow, standIns := [], harness := (true, "283f6d9d941643ac4b13d1fb73fbb5baea45783aeed411615f014c78182f5680"), looks := true }, kinds := [], alts := [], laidByText := true, laidKinds := [.sentinel, .sentinel, .sentinel, .sentinel, .sentinel, .sentinel], laidTests := true, laidLooks := .later }
def FnExactWantedInUptoCardSaid : Prop := Claim7.holds Tryd.pinned (.plain (OpenSpec.upto fnExactWantedInSpec)) fnExactWantedInUptoCard
end Rows
end Go.Proofs.YtmonflmgnaamdaaDoor
