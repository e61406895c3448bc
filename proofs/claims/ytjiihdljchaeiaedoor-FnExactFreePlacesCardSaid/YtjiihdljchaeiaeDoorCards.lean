/-
  DERIVED. GIVEN WITH THE SEED: THE CARDS: each row of YtjiihdljchaeiaeDoorRows.lean that lists a variable, with what it lists TIED to the program's text (the seventh form; the later family's looks); each row that meets fmt, with fmt's text TOLD by the authors' own Lean function (tested against real Go, not proved from fmt's source: count such statements apart). THE CARD IS WHAT COUNTS. Prove the row's statement (the work); the ties are given (YtjiihdljchaeiaeDoorTie.lean); close each card by the builder's one call (the guide's Derived/Test/ToyasCard.lean, 'card_holds'). Laid BY PROGRAM, IN A SANDBOX (cutbox-door.mjs). By AI agents, Wed Nov 11 2026. No macro, syntax, notation, axiom, sorry.
-/
import Derived.Test.YtjiihdljchaeiaeDoorRows
import GoSem.ClaimSeven
namespace Go.Proofs.YtjiihdljchaeiaeDoor
namespace Rows

/-- THE TIED CARD OF 'laws.FnExactFreePlaces'. -/
def fnExactFreePlacesCard : Claim7 := { stood := { row := fnExactFreePlacesRow, standIns := [], harness := (true, "aa23a033a8e744bf7b99e382bf9d4012d49c67373f322863939fa64812dc9c06"), looks := true }, kinds := [], alts := [], laidByText := true, laidKinds := [.sentinel, .sentinel, .sentinel, .sentinel, .sentinel, .sentinel, .sentinel], laidTests := true, laidLooks := .later }
def FnExactFreePlacesCardSaid : Prop := Claim7.holds Tryd.pinned (.plain (OpenSpec.ofChange fnExactFreePlacesSpec)) fnExactFreePlacesCard

/-- THE TIED CARD OF 'laws.FnExactBottlesIn'. -/
def fnExactBottlesInCard : Claim7 := { stood := { row := fnExactBottlesInRow, standIns := [], harness := (true, "aa23a033a8e744bf7b99e382bf9d4012d49c67373f322863939fa64812dc9c06"), looks := true }, kinds := [], alts := [], laidByText := true, laidKinds := [.sentinel, .sentinel, .sentinel, .sentinel, .sentinel, .sentinel, .sentinel], laidTests := true, laidLooks := .later }
def FnExactBottlesInCardSaid : Prop := Claim7.holds Tryd.pinned (.plain (OpenSpec.ofChange fnExactBottlesInSpec)) fnExactBottlesInCard

/-- THE TIED CARD OF 'laws.FnExactFillFrom'. -/
def fnExactFillFromCard : Claim7 := { stood := { row := fnExactFillFromRow, standIns := [], harness := (true, "aa23a033a8e744bf7b99e382bf9d4012d49c67373f322863939fa64812dc9c06"), looks := true }, kinds := [], alts := [], laidByText := true, laidKinds := [.sentinel, .sentinel, .sentinel, .sentinel, .sentinel, .sentinel, .sentinel], laidTests := true, laidLooks := .later }
def FnExactFillFromCardSaid : Prop := Claim7.holds Tryd.pinned (.plain (OpenSpec.ofChange fnExactFillFromSpec)) fnExactFillFromCard

/-- THE TIED CARD OF 'laws.FnExactTurnCrate'. -/
def fnExactTurnCrateCard : Claim7 := { stood := { row := fnExactTurnCrateRow, standIns := [], harness := (true, "aa23a033a8e744bf7b99e382bf9d4012d49c67373f322863939fa64812dc9c06"), looks := true }, kinds := [], alts := [], laidByText := true, laidKinds := [.sentinel, .sentinel, .sentinel, .sentinel, .sentinel, .sentinel, .sentinel], laidTests := true, laidLooks := .later }
def FnExactTurnCrateCardSaid : Prop := Claim7.holds Tryd.pinned (.plain (OpenSpec.ofChange fnExactTurnCrateSpec)) fnExactTurnCrateCard

/-- THE SECOND FORM's CARD OF 'laws.FnExactFreePlaces'. -/
def fnExactFreePlacesUptoCard : Claim7 := { stood := { row := fnExactFreePlacesUptoRow, standIns := [], harness := (true, "aa23a033a8e744bf7b99e382bf9d4012d49c67373f322863939fa64812dc9c06"), looks := true }, kinds := [], alts := [], laidByText := true, laidKinds := [.sentinel, .sentinel, .sentinel, .sentinel, .sentinel, .sentinel, .sentinel], laidTests := true, laidLooks := .later }
def FnExactFreePlacesUptoCardSaid : Prop := Claim7.holds Tryd.pinned (.plain (OpenSpec.upto fnExactFreePlacesSpec)) fnExactFreePlacesUptoCard

/-- THE SECOND FORM's CARD OF 'laws.FnExactBottlesIn'. -/
def fnExactBottlesInUptoCard : Claim7 := { stood := { row := fnExactBottlesInUptoRow, standIns := [], harness := (true, "aa23a033a8e744bf7b99e382bf9d4012d49c67373f322863939fa64812dc9c06"), looks := true }, kinds := [], alts := [], laidByText := true, laidKinds := [.sentinel, .sentinel, .sentinel, .sentinel, .sentinel, .sentinel, .sentinel], laidTests := true, laidLooks := .later }
def FnExactBottlesInUptoCardSaid : Prop := Claim7.holds Tryd.pinned (.plain (OpenSpec.upto fnExactBottlesInSpec)) fnExactBottlesInUptoCard

/-- THE SECOND FORM's CARD OF 'laws.FnExactFillFrom'. -/
def fnExactFillFromUptoCard : Claim7 := { stood := { row := fnExactFillFromUptoRow, standIns := [], harness := (true, "aa23a033a8e744bf7b99e382bf9d4012d49c67373f322863939fa64812dc9c06"), looks := true }, kinds := [], alts := [], laidByText := true, laidKinds := [.sentinel, .sentinel, .sentinel, .sentinel, .sentinel, .sentinel, .sentinel], laidTests := true, laidLooks := .later }
def FnExactFillFromUptoCardSaid : Prop := Claim7.holds Tryd.pinned (.plain (OpenSpec.upto fnExactFillFromSpec)) fnExactFillFromUptoCard

/-- THE SECOND FORM's CARD OF 'laws.FnExactTurnCrate'. -/
def fnExactTurnCrateUptoCard : Claim7 := { stood := { row := fnExactTurnCrateUptoRow, standIns := [], harness := (true, "aa23a033a8e744bf7b99e382bf9d4012d49c67373f322863939fa64812dc9c06"), looks := true }, kinds := [], alts := [], laidByText := true, laidKinds := [.sentinel, .sentinel, .sentinel, .sentinel, .sentinel, .sentinel, .sentinel], laidTests := true, laidLooks := .later }
def FnExactTurnCrateUptoCardSaid : Prop := Claim7.holds Tryd.pinned (.plain (OpenSpec.upto fnExactTurnCrateSpec)) fnExactTurnCrateUptoCard
end Rows
end Go.Proofs.YtjiihdljchaeiaeDoor
