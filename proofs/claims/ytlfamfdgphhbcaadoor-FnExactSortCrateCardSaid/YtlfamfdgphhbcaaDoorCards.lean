/-
  DERIVED. GIVEN WITH THE SEED: THE CARDS: each row of YtlfamfdgphhbcaaDoorRows.lean that lists a variable, with what it lists TIED to the program's text (the seventh form; the later family's looks); each row that meets fmt, with fmt's text TOLD by the authors' own Lean function (tested against real Go, not proved from fmt's source: count such statements apart). THE CARD IS WHAT COUNTS. Prove the row's statement (the work); the ties are given (YtlfamfdgphhbcaaDoorTie.lean); close each card by the builder's one call (the guide's Derived/Test/ToyasCard.lean, 'card_holds'). Laid BY PROGRAM, IN A SANDBOX (cutbox-door.mjs). By AI agents, Wed Nov 11 2026. No macro, syntax, notation, axiom, sorry.
-/
import Derived.Test.YtlfamfdgphhbcaaDoorRows
import GoSem.ClaimSeven
namespace Go.Proofs.YtlfamfdgphhbcaaDoor
namespace Rows

/-- THE TIED CARD OF 'laws.FnExactMeetingDay'. -/
def fnExactMeetingDayCard : Claim7 := { stood := { row := fnExactMeetingDayRow, standIns := [], harness := (true, "adbdf034d64292e6a81b9c7a8d6d0166d286245f78fa64e83bb3c2fce5971272"), looks := true }, kinds := [], alts := [], laidByText := true, laidKinds := [.sentinel, .sentinel, .sentinel, .sentinel, .sentinel, .sentinel, .sentinel], laidTests := true, laidLooks := .later }
def FnExactMeetingDayCardSaid : Prop := Claim7.holds Tryd.pinned (.plain (OpenSpec.ofChange fnExactMeetingDaySpec)) fnExactMeetingDayCard

/-- THE TIED CARD OF 'laws.FnExactSortCrate'. -/
def fnExactSortCrateCard : Claim7 := { stood := { row := fnExactSortCrateRow, standIns := [], harness := (true, "adbdf034d64292e6a81b9c7a8d6d0166d286245f78fa64e83bb3c2fce5971272"), looks := true }, kinds := [], alts := [], laidByText := true, laidKinds := [.sentinel, .sentinel, .sentinel, .sentinel, .sentinel, .sentinel, .sentinel], laidTests := true, laidLooks := .later }
def FnExactSortCrateCardSaid : Prop := Claim7.holds Tryd.pinned (.plain (OpenSpec.ofChange fnExactSortCrateSpec)) fnExactSortCrateCard

/-- THE TIED CARD OF 'laws.FnExactSortLane'. -/
def fnExactSortLaneCard : Claim7 := { stood := { row := fnExactSortLaneRow, standIns := [], harness := (true, "adbdf034d64292e6a81b9c7a8d6d0166d286245f78fa64e83bb3c2fce5971272"), looks := true }, kinds := [], alts := [], laidByText := true, laidKinds := [.sentinel, .sentinel, .sentinel, .sentinel, .sentinel, .sentinel, .sentinel], laidTests := true, laidLooks := .later }
def FnExactSortLaneCardSaid : Prop := Claim7.holds Tryd.pinned (.plain (OpenSpec.ofChange fnExactSortLaneSpec)) fnExactSortLaneCard

/-- THE TIED CARD OF 'laws.FnExactCrateText'. -/
def fnExactCrateTextCard : Claim7 := { stood := { row := fnExactCrateTextRow, standIns := [], harness := (true, "adbdf034d64292e6a81b9c7a8d6d0166d286245f78fa64e83bb3c2fce5971272"), looks := true }, kinds := [], alts := [], laidByText := true, laidKinds := [.data, .data, .data], laidTests := true, laidLooks := .later }
def FnExactCrateTextCardSaid : Prop := Claim7.holds Tryd.pinned (.plain (OpenSpec.ofChange fnExactCrateTextSpec)) fnExactCrateTextCard

/-- THE SECOND FORM's CARD OF 'laws.FnExactMeetingDay'. -/
def fnExactMeetingDayUptoCard : Claim7 := { stood := { row := fnExactMeetingDayUptoRow, standIns := [], harness := (true, "adbdf034d64292e6a81b9c7a8d6d0166d286245f78fa64e83bb3c2fce5971272"), looks := true }, kinds := [], alts := [], laidByText := true, laidKinds := [.sentinel, .sentinel, .sentinel, .sentinel, .sentinel, .sentinel, .sentinel], laidTests := true, laidLooks := .later }
def FnExactMeetingDayUptoCardSaid : Prop := Claim7.holds Tryd.pinned (.plain (OpenSpec.upto fnExactMeetingDaySpec)) fnExactMeetingDayUptoCard

/-- THE SECOND FORM's CARD OF 'laws.FnExactSortCrate'. -/
def fnExactSortCrateUptoCard : Claim7 := { stood := { row := fnExactSortCrateUptoRow, standIns := [], harness := (true, "adbdf034d64292e6a81b9c7a8d6d0166d286245f78fa64e83bb3c2fce5971272"), looks := true }, kinds := [], alts := [], laidByText := true, laidKinds := [.sentinel, .sentinel, .sentinel, .sentinel, .sentinel, .sentinel, .sentinel], laidTests := true, laidLooks := .later }
def FnExactSortCrateUptoCardSaid : Prop := Claim7.holds Tryd.pinned (.plain (OpenSpec.upto fnExactSortCrateSpec)) fnExactSortCrateUptoCard

/-- THE SECOND FORM's CARD OF 'laws.FnExactSortLane'. -/
def fnExactSortLaneUptoCard : Claim7 := { stood := { row := fnExactSortLaneUptoRow, standIns := [], harness := (true, "adbdf034d64292e6a81b9c7a8d6d0166d286245f78fa64e83bb3c2fce5971272"), looks := true }, kinds := [], alts := [], laidByText := true, laidKinds := [.sentinel, .sentinel, .sentinel, .sentinel, .sentinel, .sentinel, .sentinel], laidTests := true, laidLooks := .later }
def FnExactSortLaneUptoCardSaid : Prop := Claim7.holds Tryd.pinned (.plain (OpenSpec.upto fnExactSortLaneSpec)) fnExactSortLaneUptoCard

/-- THE SECOND FORM's CARD OF 'laws.FnExactCrateText'. -/
def fnExactCrateTextUptoCard : Claim7 := { stood := { row := fnExactCrateTextUptoRow, standIns := [], harness := (true, "adbdf034d64292e6a81b9c7a8d6d0166d286245f78fa64e83bb3c2fce5971272"), looks := true }, kinds := [], alts := [], laidByText := true, laidKinds := [.data, .data, .data], laidTests := true, laidLooks := .later }
def FnExactCrateTextUptoCardSaid : Prop := Claim7.holds Tryd.pinned (.plain (OpenSpec.upto fnExactCrateTextSpec)) fnExactCrateTextUptoCard
end Rows
end Go.Proofs.YtlfamfdgphhbcaaDoor
