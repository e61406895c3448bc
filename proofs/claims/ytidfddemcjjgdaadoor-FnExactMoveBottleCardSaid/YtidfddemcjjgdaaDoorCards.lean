/-
  DERIVED. GIVEN WITH THE SEED: THE CARDS: each row of YtidfddemcjjgdaaDoorRows.lean that lists a variable, with what it lists TIED to the program's text (the seventh form; the later family's looks); each row that meets fmt, with fmt's text TOLD by the authors' own Lean function (tested against real Go, not proved from fmt's source: count such statements apart). THE CARD IS WHAT COUNTS. Prove the row's statement (the work); the ties are given (YtidfddemcjjgdaaDoorTie.lean); close each card by the builder's one call (the guide's Derived/Test/ToyasCard.lean, 'card_holds'). Laid BY PROGRAM, IN A SANDBOX (cutbox-door.mjs). By AI agents, Wed Nov 11 2026. No macro, syntax, notation, axiom, sorry.
-/
import Derived.Test.YtidfddemcjjgdaaDoorRows
import GoSem.ClaimSeven
namespace Go.Proofs.YtidfddemcjjgdaaDoor
namespace Rows

/-- THE TIED CARD OF 'laws.FnExactSwapPlaces'. -/
def fnExactSwapPlacesCard : Claim7 := { stood := { row := fnExactSwapPlacesRow, standIns := [], harness := (true, "946e771f463bf2fff6f63ad38dac194d5146401c0a52cadcda846aeded862dbb"), looks := true }, kinds := [], alts := [], laidByText := true, laidKinds := [.sentinel, .sentinel, .sentinel, .sentinel, .sentinel, .sentinel, .sentinel], laidTests := true, laidLooks := .later }
def FnExactSwapPlacesCardSaid : Prop := Claim7.holds Tryd.pinned (.plain (OpenSpec.ofChange fnExactSwapPlacesSpec)) fnExactSwapPlacesCard

/-- THE TIED CARD OF 'laws.FnExactSwapAll'. -/
def fnExactSwapAllCard : Claim7 := { stood := { row := fnExactSwapAllRow, standIns := [], harness := (true, "946e771f463bf2fff6f63ad38dac194d5146401c0a52cadcda846aeded862dbb"), looks := true }, kinds := [], alts := [], laidByText := true, laidKinds := [.sentinel, .sentinel, .sentinel, .sentinel, .sentinel, .sentinel, .sentinel], laidTests := true, laidLooks := .later }
def FnExactSwapAllCardSaid : Prop := Claim7.holds Tryd.pinned (.plain (OpenSpec.ofChange fnExactSwapAllSpec)) fnExactSwapAllCard

/-- THE TIED CARD OF 'laws.FnExactDifferIn'. -/
def fnExactDifferInCard : Claim7 := { stood := { row := fnExactDifferInRow, standIns := [], harness := (true, "946e771f463bf2fff6f63ad38dac194d5146401c0a52cadcda846aeded862dbb"), looks := true }, kinds := [], alts := [], laidByText := true, laidKinds := [.sentinel, .sentinel, .sentinel, .sentinel, .sentinel, .sentinel, .sentinel], laidTests := true, laidLooks := .later }
def FnExactDifferInCardSaid : Prop := Claim7.holds Tryd.pinned (.plain (OpenSpec.ofChange fnExactDifferInSpec)) fnExactDifferInCard

/-- THE TIED CARD OF 'laws.FnExactCheckSwaps'. -/
def fnExactCheckSwapsCard : Claim7 := { stood := { row := fnExactCheckSwapsRow, standIns := [], harness := (true, "946e771f463bf2fff6f63ad38dac194d5146401c0a52cadcda846aeded862dbb"), looks := true }, kinds := [], alts := [], laidByText := true, laidKinds := [.sentinel, .sentinel, .sentinel, .sentinel, .sentinel, .sentinel, .sentinel], laidTests := true, laidLooks := .later }
def FnExactCheckSwapsCardSaid : Prop := Claim7.holds Tryd.pinned (.plain (OpenSpec.ofChange fnExactCheckSwapsSpec)) fnExactCheckSwapsCard

/-- THE TIED CARD OF 'laws.FnExactMoveBottle'. -/
def fnExactMoveBottleCard : Claim7 := { stood := { row := fnExactMoveBottleRow, standIns := [], harness := (true, "946e771f463bf2fff6f63ad38dac194d5146401c0a52cadcda846aeded862dbb"), looks := true }, kinds := [], alts := [], laidByText := true, laidKinds := [.sentinel, .sentinel, .sentinel, .sentinel, .sentinel, .sentinel, .sentinel], laidTests := true, laidLooks := .later }
def FnExactMoveBottleCardSaid : Prop := Claim7.holds Tryd.pinned (.plain (OpenSpec.ofChange fnExactMoveBottleSpec)) fnExactMoveBottleCard

/-- THE TIED CARD OF 'laws.FnExactSwapsText'. -/
def fnExactSwapsTextCard : Claim7 := { stood := { row := fnExactSwapsTextRow, standIns := [], harness := (true, "946e771f463bf2fff6f63ad38dac194d5146401c0a52cadcda846aeded862dbb"), looks := true }, kinds := [], alts := [], laidByText := true, laidKinds := [.data, .data, .data, .sentinel, .sentinel], laidTests := true, laidLooks := .later }
def FnExactSwapsTextCardSaid : Prop := Claim7.holds Tryd.pinned (.plain (OpenSpec.ofChange fnExactSwapsTextSpec)) fnExactSwapsTextCard

/-- THE TIED CARD OF 'laws.FnExactMixedIn'. -/
def fnExactMixedInCard : Claim7 := { stood := { row := fnExactMixedInRow, standIns := [], harness := (true, "946e771f463bf2fff6f63ad38dac194d5146401c0a52cadcda846aeded862dbb"), looks := true }, kinds := [], alts := [], laidByText := true, laidKinds := [.sentinel, .sentinel, .sentinel, .sentinel, .sentinel, .sentinel, .sentinel], laidTests := true, laidLooks := .later }
def FnExactMixedInCardSaid : Prop := Claim7.holds Tryd.pinned (.plain (OpenSpec.ofChange fnExactMixedInSpec)) fnExactMixedInCard

/-- THE TIED CARD OF 'laws.FnExactStrayIn'. -/
def fnExactStrayInCard : Claim7 := { stood := { row := fnExactStrayInRow, standIns := [], harness := (true, "946e771f463bf2fff6f63ad38dac194d5146401c0a52cadcda846aeded862dbb"), looks := true }, kinds := [], alts := [], laidByText := true, laidKinds := [.sentinel, .sentinel, .sentinel, .sentinel, .sentinel, .sentinel, .sentinel], laidTests := true, laidLooks := .later }
def FnExactStrayInCardSaid : Prop := Claim7.holds Tryd.pinned (.plain (OpenSpec.ofChange fnExactStrayInSpec)) fnExactStrayInCard

/-- THE TIED CARD OF 'laws.FnExactCountOf'. -/
def fnExactCountOfCard : Claim7 := { stood := { row := fnExactCountOfRow, standIns := [], harness := (true, "946e771f463bf2fff6f63ad38dac194d5146401c0a52cadcda846aeded862dbb"), looks := true }, kinds := [], alts := [], laidByText := true, laidKinds := [.sentinel, .sentinel, .sentinel, .sentinel, .sentinel, .sentinel, .sentinel], laidTests := true, laidLooks := .later }
def FnExactCountOfCardSaid : Prop := Claim7.holds Tryd.pinned (.plain (OpenSpec.ofChange fnExactCountOfSpec)) fnExactCountOfCard

/-- THE TIED CARD OF 'laws.FnExactIsPure'. -/
def fnExactIsPureCard : Claim7 := { stood := { row := fnExactIsPureRow, standIns := [], harness := (true, "946e771f463bf2fff6f63ad38dac194d5146401c0a52cadcda846aeded862dbb"), looks := true }, kinds := [], alts := [], laidByText := true, laidKinds := [.sentinel, .sentinel, .sentinel, .sentinel, .sentinel, .sentinel, .sentinel], laidTests := true, laidLooks := .later }
def FnExactIsPureCardSaid : Prop := Claim7.holds Tryd.pinned (.plain (OpenSpec.ofChange fnExactIsPureSpec)) fnExactIsPureCard

/-- THE TIED CARD OF 'laws.FnExactCountsIn'. -/
def fnExactCountsInCard : Claim7 := { stood := { row := fnExactCountsInRow, standIns := [], harness := (true, "946e771f463bf2fff6f63ad38dac194d5146401c0a52cadcda846aeded862dbb"), looks := true }, kinds := [], alts := [], laidByText := true, laidKinds := [.sentinel, .sentinel, .sentinel, .sentinel, .sentinel, .sentinel, .sentinel], laidTests := true, laidLooks := .later }
def FnExactCountsInCardSaid : Prop := Claim7.holds Tryd.pinned (.plain (OpenSpec.ofChange fnExactCountsInSpec)) fnExactCountsInCard

/-- THE TIED CARD OF 'laws.FnExactSameBottles'. -/
def fnExactSameBottlesCard : Claim7 := { stood := { row := fnExactSameBottlesRow, standIns := [], harness := (true, "946e771f463bf2fff6f63ad38dac194d5146401c0a52cadcda846aeded862dbb"), looks := true }, kinds := [], alts := [], laidByText := true, laidKinds := [.sentinel, .sentinel, .sentinel, .sentinel, .sentinel, .sentinel, .sentinel], laidTests := true, laidLooks := .later }
def FnExactSameBottlesCardSaid : Prop := Claim7.holds Tryd.pinned (.plain (OpenSpec.ofChange fnExactSameBottlesSpec)) fnExactSameBottlesCard

/-- THE SECOND FORM's CARD OF 'laws.FnExactSwapPlaces'. -/
def fnExactSwapPlacesUptoCard : Claim7 := { stood := { row := fnExactSwapPlacesUptoRow, standIns := [], harness := (true, "946e771f463bf2fff6f63ad38dac194d5146401c0a52cadcda846aeded862dbb"), looks := true }, kinds := [], alts := [], laidByText := true, laidKinds := [.sentinel, .sentinel, .sentinel, .sentinel, .sentinel, .sentinel, .sentinel], laidTests := true, laidLooks := .later }
def FnExactSwapPlacesUptoCardSaid : Prop := Claim7.holds Tryd.pinned (.plain (OpenSpec.upto fnExactSwapPlacesSpec)) fnExactSwapPlacesUptoCard

/-- THE SECOND FORM's CARD OF 'laws.FnExactSwapAll'. -/
def fnExactSwapAllUptoCard : Claim7 := { stood := { row := fnExactSwapAllUptoRow, standIns := [], harness := (true, "946e771f463bf2fff6f63ad38dac194d5146401c0a52cadcda846aeded862dbb"), looks := true }, kinds := [], alts := [], laidByText := true, laidKinds := [.sentinel, .sentinel, .sentinel, .sentinel, .sentinel, .sentinel, .sentinel], laidTests := true, laidLooks := .later }
def FnExactSwapAllUptoCardSaid : Prop := Claim7.holds Tryd.pinned (.plain (OpenSpec.upto fnExactSwapAllSpec)) fnExactSwapAllUptoCard

/-- THE SECOND FORM's CARD OF 'laws.FnExactDifferIn'. -/
def fnExactDifferInUptoCard : Claim7 := { stood := { row := fnExactDifferInUptoRow, standIns := [], harness := (true, "946e771f463bf2fff6f63ad38dac194d5146401c0a52cadcda846aeded862dbb"), looks := true }, kinds := [], alts := [], laidByText := true, laidKinds := [.sentinel, .sentinel, .sentinel, .sentinel, .sentinel, .sentinel, .sentinel], laidTests := true, laidLooks := .later }
def FnExactDifferInUptoCardSaid : Prop := Claim7.holds Tryd.pinned (.plain (OpenSpec.upto fnExactDifferInSpec)) fnExactDifferInUptoCard

/-- THE SECOND FORM's CARD OF 'laws.FnExactCheckSwaps'. -/
def fnExactCheckSwapsUptoCard : Claim7 := { stood := { row := fnExactCheckSwapsUptoRow, standIns := [], harness := (true, "946e771f463bf2fff6f63ad38dac194d5146401c0a52cadcda846aeded862dbb"), looks := true }, kinds := [], alts := [], laidByText := true, laidKinds := [.sentinel, .sentinel, .sentinel, .sentinel, .sentinel, .sentinel, .sentinel], laidTests := true, laidLooks := .later }
def FnExactCheckSwapsUptoCardSaid : Prop := Claim7.holds Tryd.pinned (.plain (OpenSpec.upto fnExactCheckSwapsSpec)) fnExactCheckSwapsUptoCard

/-- THE SECOND FORM's CARD OF 'laws.FnExactMoveBottle'. -/
def fnExactMoveBottleUptoCard : Claim7 := { stood := { row := fnExactMoveBottleUptoRow, standIns := [], harness := (true, "946e771f463bf2fff6f63ad38dac194d5146401c0a52cadcda846aeded862dbb"), looks := true }, kinds := [], alts := [], laidByText := true, laidKinds := [.sentinel, .sentinel, .sentinel, .sentinel, .sentinel, .sentinel, .sentinel], laidTests := true, laidLooks := .later }
def FnExactMoveBottleUptoCardSaid : Prop := Claim7.holds Tryd.pinned (.plain (OpenSpec.upto fnExactMoveBottleSpec)) fnExactMoveBottleUptoCard

/-- THE SECOND FORM's CARD OF 'laws.FnExactSwapsText'. -/
def fnExactSwapsTextUptoCard : Claim7 := { stood := { row := fnExactSwapsTextUptoRow, standIns := [], harness := (true, "946e771f463bf2fff6f63ad38dac194d5146401c0a52cadcda846aeded862dbb"), looks := true }, kinds := [], alts := [], laidByText := true, laidKinds := [.data, .data, .data, .sentinel, .sentinel], laidTests := true, laidLooks := .later }
def FnExactSwapsTextUptoCardSaid : Prop := Claim7.holds Tryd.pinned (.plain (OpenSpec.upto fnExactSwapsTextSpec)) fnExactSwapsTextUptoCard

/-- THE SECOND FORM's CARD OF 'laws.FnExactMixedIn'. -/
def fnExactMixedInUptoCard : Claim7 := { stood := { row := fnExactMixedInUptoRow, standIns := [], harness := (true, "946e771f463bf2fff6f63ad38dac194d5146401c0a52cadcda846aeded862dbb"), looks := true }, kinds := [], alts := [], laidByText := true, laidKinds := [.sentinel, .sentinel, .sentinel, .sentinel, .sentinel, .sentinel, .sentinel], laidTests := true, laidLooks := .later }
def FnExactMixedInUptoCardSaid : Prop := Claim7.holds Tryd.pinned (.plain (OpenSpec.upto fnExactMixedInSpec)) fnExactMixedInUptoCard

/-- THE SECOND FORM's CARD OF 'laws.FnExactStrayIn'. -/
def fnExactStrayInUptoCard : Claim7 := { stood := { row := fnExactStrayInUptoRow, standIns := [], harness := (true, "946e771f463bf2fff6f63ad38dac194d5146401c0a52cadcda846aeded862dbb"), looks := true }, kinds := [], alts := [], laidByText := true, laidKinds := [.sentinel, .sentinel, .sentinel, .sentinel, .sentinel, .sentinel, .sentinel], laidTests := true, laidLooks := .later }
def FnExactStrayInUptoCardSaid : Prop := Claim7.holds Tryd.pinned (.plain (OpenSpec.upto fnExactStrayInSpec)) fnExactStrayInUptoCard

/-- THE SECOND FORM's CARD OF 'laws.FnExactCountOf'. -/
def fnExactCountOfUptoCard : Claim7 := { stood := { row := fnExactCountOfUptoRow, standIns := [], harness := (true, "946e771f463bf2fff6f63ad38dac194d5146401c0a52cadcda846aeded862dbb"), looks := true }, kinds := [], alts := [], laidByText := true, laidKinds := [.sentinel, .sentinel, .sentinel, .sentinel, .sentinel, .sentinel, .sentinel], laidTests := true, laidLooks := .later }
def FnExactCountOfUptoCardSaid : Prop := Claim7.holds Tryd.pinned (.plain (OpenSpec.upto fnExactCountOfSpec)) fnExactCountOfUptoCard

/-- THE SECOND FORM's CARD OF 'laws.FnExactIsPure'. -/
def fnExactIsPureUptoCard : Claim7 := { stood := { row := fnExactIsPureUptoRow, standIns := [], harness := (true, "946e771f463bf2fff6f63ad38dac194d5146401c0a52cadcda846aeded862dbb"), looks := true }, kinds := [], alts := [], laidByText := true, laidKinds := [.sentinel, .sentinel, .sentinel, .sentinel, .sentinel, .sentinel, .sentinel], laidTests := true, laidLooks := .later }
def FnExactIsPureUptoCardSaid : Prop := Claim7.holds Tryd.pinned (.plain (OpenSpec.upto fnExactIsPureSpec)) fnExactIsPureUptoCard

/-- THE SECOND FORM's CARD OF 'laws.FnExactCountsIn'. -/
def fnExactCountsInUptoCard : Claim7 := { stood := { row := fnExactCountsInUptoRow, standIns := [], harness := (true, "946e771f463bf2fff6f63ad38dac194d5146401c0a52cadcda846aeded862dbb"), looks := true }, kinds := [], alts := [], laidByText := true, laidKinds := [.sentinel, .sentinel, .sentinel, .sentinel, .sentinel, .sentinel, .sentinel], laidTests := true, laidLooks := .later }
def FnExactCountsInUptoCardSaid : Prop := Claim7.holds Tryd.pinned (.plain (OpenSpec.upto fnExactCountsInSpec)) fnExactCountsInUptoCard

/-- THE SECOND FORM's CARD OF 'laws.FnExactSameBottles'. -/
def fnExactSameBottlesUptoCard : Claim7 := { stood := { row := fnExactSameBottlesUptoRow, standIns := [], harness := (true, "946e771f463bf2fff6f63ad38dac194d5146401c0a52cadcda846aeded862dbb"), looks := true }, kinds := [], alts := [], laidByText := true, laidKinds := [.sentinel, .sentinel, .sentinel, .sentinel, .sentinel, .sentinel, .sentinel], laidTests := true, laidLooks := .later }
def FnExactSameBottlesUptoCardSaid : Prop := Claim7.holds Tryd.pinned (.plain (OpenSpec.upto fnExactSameBottlesSpec)) fnExactSameBottlesUptoCard
end Rows
end Go.Proofs.YtidfddemcjjgdaaDoor
