/-
  DERIVED. GIVEN WITH THE SEED: THE CARDS: each row of YtlfamfdgphhbcabDoorRows.lean that lists a variable, with what it lists TIED to the program's text (the seventh form; the later family's looks); each row that meets fmt, with fmt's text TOLD by the authors' own Lean function (tested against real Go, not proved from fmt's source: count such statements apart). THE CARD IS WHAT COUNTS. Prove the row's statement (the work); the ties are given (YtlfamfdgphhbcabDoorTie.lean); close each card by the builder's one call (the guide's Derived/Test/ToyasCard.lean, 'card_holds'). Laid BY PROGRAM, IN A SANDBOX (cutbox-door.mjs). By AI agents, Wed Nov 11 2026. No macro, syntax, notation, axiom, sorry.
-/
import Derived.Test.YtlfamfdgphhbcabDoorRows
import GoSem.ClaimSeven
namespace Go.Proofs.YtlfamfdgphhbcabDoor
namespace Rows

/-- THE TIED CARD OF 'laws.FnExactMissingIn'. -/
def fnExactMissingInCard : Claim7 := { stood := { row := fnExactMissingInRow, standIns := [], harness := (true, "afd0ad2d6a0bdf44a328fec5720e3900cacc8b2342bed567e0e825c17baa2d04"), looks := true }, kinds := [], alts := [], laidByText := true, laidKinds := [.sentinel, .sentinel, .sentinel, .sentinel, .sentinel, .sentinel], laidTests := true, laidLooks := .later }
def FnExactMissingInCardSaid : Prop := Claim7.holds Tryd.pinned (.plain (OpenSpec.ofChange fnExactMissingInSpec)) fnExactMissingInCard

/-- THE TIED CARD OF 'laws.FnExactMissedWalks'. -/
def fnExactMissedWalksCard : Claim7 := { stood := { row := fnExactMissedWalksRow, standIns := [], harness := (true, "afd0ad2d6a0bdf44a328fec5720e3900cacc8b2342bed567e0e825c17baa2d04"), looks := true }, kinds := [], alts := [], laidByText := true, laidKinds := [.sentinel, .sentinel, .sentinel, .sentinel, .sentinel, .sentinel, .sentinel], laidTests := true, laidLooks := .later }
def FnExactMissedWalksCardSaid : Prop := Claim7.holds Tryd.pinned (.plain (OpenSpec.ofChange fnExactMissedWalksSpec)) fnExactMissedWalksCard

/-- THE TIED CARD OF 'laws.FnExactOldestOf'. -/
def fnExactOldestOfCard : Claim7 := { stood := { row := fnExactOldestOfRow, standIns := [], harness := (true, "afd0ad2d6a0bdf44a328fec5720e3900cacc8b2342bed567e0e825c17baa2d04"), looks := true }, kinds := [], alts := [], laidByText := true, laidKinds := [.sentinel, .sentinel, .sentinel, .sentinel, .sentinel, .sentinel, .sentinel], laidTests := true, laidLooks := .later }
def FnExactOldestOfCardSaid : Prop := Claim7.holds Tryd.pinned (.plain (OpenSpec.ofChange fnExactOldestOfSpec)) fnExactOldestOfCard

/-- THE TIED CARD OF 'laws.FnExactChoiceOf'. -/
def fnExactChoiceOfCard : Claim7 := { stood := { row := fnExactChoiceOfRow, standIns := [], harness := (true, "afd0ad2d6a0bdf44a328fec5720e3900cacc8b2342bed567e0e825c17baa2d04"), looks := true }, kinds := [], alts := [], laidByText := true, laidKinds := [.sentinel, .sentinel, .sentinel, .sentinel, .sentinel, .sentinel, .sentinel], laidTests := true, laidLooks := .later }
def FnExactChoiceOfCardSaid : Prop := Claim7.holds Tryd.pinned (.plain (OpenSpec.ofChange fnExactChoiceOfSpec)) fnExactChoiceOfCard

/-- THE SECOND FORM's CARD OF 'laws.FnExactMissingIn'. -/
def fnExactMissingInUptoCard : Claim7 := { stood := { row := fnExactMissingInUptoRow, standIns := [], harness := (true, "afd0ad2d6a0bdf44a328fec5720e3900cacc8b2342bed567e0e825c17baa2d04"), looks := true }, kinds := [], alts := [], laidByText := true, laidKinds := [.sentinel, .sentinel, .sentinel, .sentinel, .sentinel, .sentinel], laidTests := true, laidLooks := .later }
def FnExactMissingInUptoCardSaid : Prop := Claim7.holds Tryd.pinned (.plain (OpenSpec.upto fnExactMissingInSpec)) fnExactMissingInUptoCard

/-- THE SECOND FORM's CARD OF 'laws.FnExactMissedWalks'. -/
def fnExactMissedWalksUptoCard : Claim7 := { stood := { row := fnExactMissedWalksUptoRow, standIns := [], harness := (true, "afd0ad2d6a0bdf44a328fec5720e3900cacc8b2342bed567e0e825c17baa2d04"), looks := true }, kinds := [], alts := [], laidByText := true, laidKinds := [.sentinel, .sentinel, .sentinel, .sentinel, .sentinel, .sentinel, .sentinel], laidTests := true, laidLooks := .later }
def FnExactMissedWalksUptoCardSaid : Prop := Claim7.holds Tryd.pinned (.plain (OpenSpec.upto fnExactMissedWalksSpec)) fnExactMissedWalksUptoCard

/-- THE SECOND FORM's CARD OF 'laws.FnExactOldestOf'. -/
def fnExactOldestOfUptoCard : Claim7 := { stood := { row := fnExactOldestOfUptoRow, standIns := [], harness := (true, "afd0ad2d6a0bdf44a328fec5720e3900cacc8b2342bed567e0e825c17baa2d04"), looks := true }, kinds := [], alts := [], laidByText := true, laidKinds := [.sentinel, .sentinel, .sentinel, .sentinel, .sentinel, .sentinel, .sentinel], laidTests := true, laidLooks := .later }
def FnExactOldestOfUptoCardSaid : Prop := Claim7.holds Tryd.pinned (.plain (OpenSpec.upto fnExactOldestOfSpec)) fnExactOldestOfUptoCard

/-- THE SECOND FORM's CARD OF 'laws.FnExactChoiceOf'. -/
def fnExactChoiceOfUptoCard : Claim7 := { stood := { row := fnExactChoiceOfUptoRow, standIns := [], harness := (true, "afd0ad2d6a0bdf44a328fec5720e3900cacc8b2342bed567e0e825c17baa2d04"), looks := true }, kinds := [], alts := [], laidByText := true, laidKinds := [.sentinel, .sentinel, .sentinel, .sentinel, .sentinel, .sentinel, .sentinel], laidTests := true, laidLooks := .later }
def FnExactChoiceOfUptoCardSaid : Prop := Claim7.holds Tryd.pinned (.plain (OpenSpec.upto fnExactChoiceOfSpec)) fnExactChoiceOfUptoCard
end Rows
end Go.Proofs.YtlfamfdgphhbcabDoor
