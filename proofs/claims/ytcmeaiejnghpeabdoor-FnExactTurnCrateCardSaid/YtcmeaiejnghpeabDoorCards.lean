/-
  DERIVED. GIVEN WITH THE SEED: THE CARDS: each row of YtcmeaiejnghpeabDoorRows.lean that lists a variable, with what it lists TIED to the program's text (the seventh form; the later family's looks); each row that meets fmt, with fmt's text TOLD by the authors' own Lean function (tested against real Go, not proved from fmt's source: count such statements apart). THE CARD IS WHAT COUNTS. Prove the row's statement (the work); the ties are given (YtcmeaiejnghpeabDoorTie.lean); close each card by the builder's one call (the guide's Derived/Test/ToyasCard.lean, 'card_holds'). Laid BY PROGRAM, IN A SANDBOX (cutbox-door.mjs). By AI agents, Wed Nov 11 2026. No macro, syntax, notation, axiom, sorry.
-/
import Derived.Test.YtcmeaiejnghpeabDoorRows
import GoSem.ClaimSeven
namespace Go.Proofs.YtcmeaiejnghpeabDoor
namespace Rows

/-- THE TIED CARD OF 'laws.FnExactAddBottle'. -/
def fnExactAddBottleCard : Claim7 := { stood := { row := fnExactAddBottleRow, standIns := [], harness := (true, "d7bb3157774ac9825b3a24dcd02d37140afbbe46801ee7f2d78ce41c69b65f14"), looks := true }, kinds := [], alts := [], laidByText := true, laidKinds := [.sentinel, .sentinel, .sentinel, .sentinel, .sentinel, .sentinel], laidTests := true, laidLooks := .later }
def FnExactAddBottleCardSaid : Prop := Claim7.holds Tryd.pinned (.plain (OpenSpec.ofChange fnExactAddBottleSpec)) fnExactAddBottleCard

/-- THE TIED CARD OF 'laws.FnExactPlaceOf'. -/
def fnExactPlaceOfCard : Claim7 := { stood := { row := fnExactPlaceOfRow, standIns := [], harness := (true, "d7bb3157774ac9825b3a24dcd02d37140afbbe46801ee7f2d78ce41c69b65f14"), looks := true }, kinds := [], alts := [], laidByText := true, laidKinds := [.sentinel, .sentinel, .sentinel, .sentinel, .sentinel, .sentinel], laidTests := true, laidLooks := .later }
def FnExactPlaceOfCardSaid : Prop := Claim7.holds Tryd.pinned (.plain (OpenSpec.ofChange fnExactPlaceOfSpec)) fnExactPlaceOfCard

/-- THE TIED CARD OF 'laws.FnExactIsPure'. -/
def fnExactIsPureCard : Claim7 := { stood := { row := fnExactIsPureRow, standIns := [], harness := (true, "d7bb3157774ac9825b3a24dcd02d37140afbbe46801ee7f2d78ce41c69b65f14"), looks := true }, kinds := [], alts := [], laidByText := true, laidKinds := [.sentinel, .sentinel, .sentinel, .sentinel, .sentinel, .sentinel], laidTests := true, laidLooks := .later }
def FnExactIsPureCardSaid : Prop := Claim7.holds Tryd.pinned (.plain (OpenSpec.ofChange fnExactIsPureSpec)) fnExactIsPureCard

/-- THE TIED CARD OF 'laws.FnExactSortCrate'. -/
def fnExactSortCrateCard : Claim7 := { stood := { row := fnExactSortCrateRow, standIns := [], harness := (true, "d7bb3157774ac9825b3a24dcd02d37140afbbe46801ee7f2d78ce41c69b65f14"), looks := true }, kinds := [], alts := [], laidByText := true, laidKinds := [.sentinel, .sentinel, .sentinel, .sentinel, .sentinel, .sentinel], laidTests := true, laidLooks := .later }
def FnExactSortCrateCardSaid : Prop := Claim7.holds Tryd.pinned (.plain (OpenSpec.ofChange fnExactSortCrateSpec)) fnExactSortCrateCard

/-- THE TIED CARD OF 'laws.FnExactTurnCrate'. -/
def fnExactTurnCrateCard : Claim7 := { stood := { row := fnExactTurnCrateRow, standIns := [], harness := (true, "d7bb3157774ac9825b3a24dcd02d37140afbbe46801ee7f2d78ce41c69b65f14"), looks := true }, kinds := [], alts := [], laidByText := true, laidKinds := [.sentinel, .sentinel, .sentinel, .sentinel, .sentinel, .sentinel], laidTests := true, laidLooks := .later }
def FnExactTurnCrateCardSaid : Prop := Claim7.holds Tryd.pinned (.plain (OpenSpec.ofChange fnExactTurnCrateSpec)) fnExactTurnCrateCard

/-- THE TIED CARD OF 'laws.FnExactTipOf'. -/
def fnExactTipOfCard : Claim7 := { stood := { row := fnExactTipOfRow, standIns := [], harness := (true, "d7bb3157774ac9825b3a24dcd02d37140afbbe46801ee7f2d78ce41c69b65f14"), looks := true }, kinds := [], alts := [], laidByText := true, laidKinds := [.sentinel, .sentinel, .sentinel, .sentinel, .sentinel, .sentinel], laidTests := true, laidLooks := .later }
def FnExactTipOfCardSaid : Prop := Claim7.holds Tryd.pinned (.plain (OpenSpec.ofChange fnExactTipOfSpec)) fnExactTipOfCard

/-- THE TIED CARD OF 'laws.FnExactLevelCrate'. -/
def fnExactLevelCrateCard : Claim7 := { stood := { row := fnExactLevelCrateRow, standIns := [], harness := (true, "d7bb3157774ac9825b3a24dcd02d37140afbbe46801ee7f2d78ce41c69b65f14"), looks := true }, kinds := [], alts := [], laidByText := true, laidKinds := [.sentinel, .sentinel, .sentinel, .sentinel, .sentinel, .sentinel], laidTests := true, laidLooks := .later }
def FnExactLevelCrateCardSaid : Prop := Claim7.holds Tryd.pinned (.plain (OpenSpec.ofChange fnExactLevelCrateSpec)) fnExactLevelCrateCard

/-- THE TIED CARD OF 'laws.FnExactFillFrom'. -/
def fnExactFillFromCard : Claim7 := { stood := { row := fnExactFillFromRow, standIns := [], harness := (true, "d7bb3157774ac9825b3a24dcd02d37140afbbe46801ee7f2d78ce41c69b65f14"), looks := true }, kinds := [], alts := [], laidByText := true, laidKinds := [.sentinel, .sentinel, .sentinel, .sentinel, .sentinel, .sentinel], laidTests := true, laidLooks := .later }
def FnExactFillFromCardSaid : Prop := Claim7.holds Tryd.pinned (.plain (OpenSpec.ofChange fnExactFillFromSpec)) fnExactFillFromCard

/-- THE TIED CARD OF 'laws.FnExactCountsIn'. -/
def fnExactCountsInCard : Claim7 := { stood := { row := fnExactCountsInRow, standIns := [], harness := (true, "d7bb3157774ac9825b3a24dcd02d37140afbbe46801ee7f2d78ce41c69b65f14"), looks := true }, kinds := [], alts := [], laidByText := true, laidKinds := [.sentinel, .sentinel, .sentinel, .sentinel, .sentinel, .sentinel], laidTests := true, laidLooks := .later }
def FnExactCountsInCardSaid : Prop := Claim7.holds Tryd.pinned (.plain (OpenSpec.ofChange fnExactCountsInSpec)) fnExactCountsInCard

/-- THE TIED CARD OF 'laws.FnExactCountOf'. -/
def fnExactCountOfCard : Claim7 := { stood := { row := fnExactCountOfRow, standIns := [], harness := (true, "d7bb3157774ac9825b3a24dcd02d37140afbbe46801ee7f2d78ce41c69b65f14"), looks := true }, kinds := [], alts := [], laidByText := true, laidKinds := [.sentinel, .sentinel, .sentinel, .sentinel, .sentinel, .sentinel], laidTests := true, laidLooks := .later }
def FnExactCountOfCardSaid : Prop := Claim7.holds Tryd.pinned (.plain (OpenSpec.ofChange fnExactCountOfSpec)) fnExactCountOfCard

/-- THE TIED CARD OF 'laws.FnExactPackStack'. -/
def fnExactPackStackCard : Claim7 := { stood := { row := fnExactPackStackRow, standIns := [], harness := (true, "d7bb3157774ac9825b3a24dcd02d37140afbbe46801ee7f2d78ce41c69b65f14"), looks := true }, kinds := [], alts := [], laidByText := true, laidKinds := [.sentinel, .sentinel, .sentinel, .sentinel, .sentinel, .sentinel], laidTests := true, laidLooks := .later }
def FnExactPackStackCardSaid : Prop := Claim7.holds Tryd.pinned (.plain (OpenSpec.ofChange fnExactPackStackSpec)) fnExactPackStackCard

/-- THE SECOND FORM's CARD OF 'laws.FnExactAddBottle'. -/
def fnExactAddBottleUptoCard : Claim7 := { stood := { row := fnExactAddBottleUptoRow, standIns := [], harness := (true, "d7bb3157774ac9825b3a24dcd02d37140afbbe46801ee7f2d78ce41c69b65f14"), looks := true }, kinds := [], alts := [], laidByText := true, laidKinds := [.sentinel, .sentinel, .sentinel, .sentinel, .sentinel, .sentinel], laidTests := true, laidLooks := .later }
def FnExactAddBottleUptoCardSaid : Prop := Claim7.holds Tryd.pinned (.plain (OpenSpec.upto fnExactAddBottleSpec)) fnExactAddBottleUptoCard

/-- THE SECOND FORM's CARD OF 'laws.FnExactPlaceOf'. -/
def fnExactPlaceOfUptoCard : Claim7 := { stood := { row := fnExactPlaceOfUptoRow, standIns := [], harness := (true, "d7bb3157774ac9825b3a24dcd02d37140afbbe46801ee7f2d78ce41c69b65f14"), looks := true }, kinds := [], alts := [], laidByText := true, laidKinds := [.sentinel, .sentinel, .sentinel, .sentinel, .sentinel, .sentinel], laidTests := true, laidLooks := .later }
def FnExactPlaceOfUptoCardSaid : Prop := Claim7.holds Tryd.pinned (.plain (OpenSpec.upto fnExactPlaceOfSpec)) fnExactPlaceOfUptoCard

/-- THE SECOND FORM's CARD OF 'laws.FnExactIsPure'. -/
def fnExactIsPureUptoCard : Claim7 := { stood := { row := fnExactIsPureUptoRow, standIns := [], harness := (true, "d7bb3157774ac9825b3a24dcd02d37140afbbe46801ee7f2d78ce41c69b65f14"), looks := true }, kinds := [], alts := [], laidByText := true, laidKinds := [.sentinel, .sentinel, .sentinel, .sentinel, .sentinel, .sentinel], laidTests := true, laidLooks := .later }
def FnExactIsPureUptoCardSaid : Prop := Claim7.holds Tryd.pinned (.plain (OpenSpec.upto fnExactIsPureSpec)) fnExactIsPureUptoCard

/-- THE SECOND FORM's CARD OF 'laws.FnExactSortCrate'. -/
def fnExactSortCrateUptoCard : Claim7 := { stood := { row := fnExactSortCrateUptoRow, standIns := [], harness := (true, "d7bb3157774ac9825b3a24dcd02d37140afbbe46801ee7f2d78ce41c69b65f14"), looks := true }, kinds := [], alts := [], laidByText := true, laidKinds := [.sentinel, .sentinel, .sentinel, .sentinel, .sentinel, .sentinel], laidTests := true, laidLooks := .later }
def FnExactSortCrateUptoCardSaid : Prop := Claim7.holds Tryd.pinned (.plain (OpenSpec.upto fnExactSortCrateSpec)) fnExactSortCrateUptoCard

/-- THE SECOND FORM's CARD OF 'laws.FnExactTurnCrate'. -/
def fnExactTurnCrateUptoCard : Claim7 := { stood := { row := fnExactTurnCrateUptoRow, standIns := [], harness := (true, "d7bb3157774ac9825b3a24dcd02d37140afbbe46801ee7f2d78ce41c69b65f14"), looks := true }, kinds := [], alts := [], laidByText := true, laidKinds := [.sentinel, .sentinel, .sentinel, .sentinel, .sentinel, .sentinel], laidTests := true, laidLooks := .later }
def FnExactTurnCrateUptoCardSaid : Prop := Claim7.holds Tryd.pinned (.plain (OpenSpec.upto fnExactTurnCrateSpec)) fnExactTurnCrateUptoCard

/-- THE SECOND FORM's CARD OF 'laws.FnExactTipOf'. -/
def fnExactTipOfUptoCard : Claim7 := { stood := { row := fnExactTipOfUptoRow, standIns := [], harness := (true, "d7bb3157774ac9825b3a24dcd02d37140afbbe46801ee7f2d78ce41c69b65f14"), looks := true }, kinds := [], alts := [], laidByText := true, laidKinds := [.sentinel, .sentinel, .sentinel, .sentinel, .sentinel, .sentinel], laidTests := true, laidLooks := .later }
def FnExactTipOfUptoCardSaid : Prop := Claim7.holds Tryd.pinned (.plain (OpenSpec.upto fnExactTipOfSpec)) fnExactTipOfUptoCard

/-- THE SECOND FORM's CARD OF 'laws.FnExactLevelCrate'. -/
def fnExactLevelCrateUptoCard : Claim7 := { stood := { row := fnExactLevelCrateUptoRow, standIns := [], harness := (true, "d7bb3157774ac9825b3a24dcd02d37140afbbe46801ee7f2d78ce41c69b65f14"), looks := true }, kinds := [], alts := [], laidByText := true, laidKinds := [.sentinel, .sentinel, .sentinel, .sentinel, .sentinel, .sentinel], laidTests := true, laidLooks := .later }
def FnExactLevelCrateUptoCardSaid : Prop := Claim7.holds Tryd.pinned (.plain (OpenSpec.upto fnExactLevelCrateSpec)) fnExactLevelCrateUptoCard

/-- THE SECOND FORM's CARD OF 'laws.FnExactFillFrom'. -/
def fnExactFillFromUptoCard : Claim7 := { stood := { row := fnExactFillFromUptoRow, standIns := [], harness := (true, "d7bb3157774ac9825b3a24dcd02d37140afbbe46801ee7f2d78ce41c69b65f14"), looks := true }, kinds := [], alts := [], laidByText := true, laidKinds := [.sentinel, .sentinel, .sentinel, .sentinel, .sentinel, .sentinel], laidTests := true, laidLooks := .later }
def FnExactFillFromUptoCardSaid : Prop := Claim7.holds Tryd.pinned (.plain (OpenSpec.upto fnExactFillFromSpec)) fnExactFillFromUptoCard

/-- THE SECOND FORM's CARD OF 'laws.FnExactCountsIn'. -/
def fnExactCountsInUptoCard : Claim7 := { stood := { row := fnExactCountsInUptoRow, standIns := [], harness := (true, "d7bb3157774ac9825b3a24dcd02d37140afbbe46801ee7f2d78ce41c69b65f14"), looks := true }, kinds := [], alts := [], laidByText := true, laidKinds := [.sentinel, .sentinel, .sentinel, .sentinel, .sentinel, .sentinel], laidTests := true, laidLooks := .later }
def FnExactCountsInUptoCardSaid : Prop := Claim7.holds Tryd.pinned (.plain (OpenSpec.upto fnExactCountsInSpec)) fnExactCountsInUptoCard

/-- THE SECOND FORM's CARD OF 'laws.FnExactCountOf'. -/
def fnExactCountOfUptoCard : Claim7 := { stood := { row := fnExactCountOfUptoRow, standIns := [], harness := (true, "d7bb3157774ac9825b3a24dcd02d37140afbbe46801ee7f2d78ce41c69b65f14"), looks := true }, kinds := [], alts := [], laidByText := true, laidKinds := [.sentinel, .sentinel, .sentinel, .sentinel, .sentinel, .sentinel], laidTests := true, laidLooks := .later }
def FnExactCountOfUptoCardSaid : Prop := Claim7.holds Tryd.pinned (.plain (OpenSpec.upto fnExactCountOfSpec)) fnExactCountOfUptoCard

/-- THE SECOND FORM's CARD OF 'laws.FnExactPackStack'. -/
def fnExactPackStackUptoCard : Claim7 := { stood := { row := fnExactPackStackUptoRow, standIns := [], harness := (true, "d7bb3157774ac9825b3a24dcd02d37140afbbe46801ee7f2d78ce41c69b65f14"), looks := true }, kinds := [], alts := [], laidByText := true, laidKinds := [.sentinel, .sentinel, .sentinel, .sentinel, .sentinel, .sentinel], laidTests := true, laidLooks := .later }
def FnExactPackStackUptoCardSaid : Prop := Claim7.holds Tryd.pinned (.plain (OpenSpec.upto fnExactPackStackSpec)) fnExactPackStackUptoCard
end Rows
end Go.Proofs.YtcmeaiejnghpeabDoor
