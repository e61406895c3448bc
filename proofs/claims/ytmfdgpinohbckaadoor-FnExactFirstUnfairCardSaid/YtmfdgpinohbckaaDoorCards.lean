/-
  DERIVED. GIVEN WITH THE SEED: THE CARDS: each row of YtmfdgpinohbckaaDoorRows.lean that lists a variable, with what it lists TIED to the program's text (the seventh form; the later family's looks); each row that meets fmt, with fmt's text TOLD by the authors' own Lean function (tested against real Go, not proved from fmt's source: count such statements apart). THE CARD IS WHAT COUNTS. Prove the row's statement (the work); the ties are given (YtmfdgpinohbckaaDoorTie.lean); close each card by the builder's one call (the guide's Derived/Test/ToyasCard.lean, 'card_holds'). Laid BY PROGRAM, IN A SANDBOX (cutbox-door.mjs). By AI agents, Wed Nov 11 2026. No macro, syntax, notation, axiom, sorry.
-/
import Derived.Test.YtmfdgpinohbckaaDoorRows
import GoSem.ClaimSeven
namespace Go.Proofs.YtmfdgpinohbckaaDoor
namespace Rows

/-- THE TIED CARD OF 'laws.FnExactReachOut'. -/
def fnExactReachOutCard : Claim7 := { stood := { row := fnExactReachOutRow, standIns := [], harness := (true, "393462431935664eb40558831cb663fde07b1b1ddf000bdbde3afd590ac5434d"), looks := true }, kinds := [], alts := [], laidByText := true, laidKinds := [.sentinel, .sentinel, .sentinel, .sentinel, .sentinel, .sentinel, .sentinel], laidTests := true, laidLooks := .later }
def FnExactReachOutCardSaid : Prop := Claim7.holds Tryd.pinned (.plain (OpenSpec.ofChange fnExactReachOutSpec)) fnExactReachOutCard

/-- THE TIED CARD OF 'laws.FnExactTakeOldest'. -/
def fnExactTakeOldestCard : Claim7 := { stood := { row := fnExactTakeOldestRow, standIns := [], harness := (true, "393462431935664eb40558831cb663fde07b1b1ddf000bdbde3afd590ac5434d"), looks := true }, kinds := [], alts := [], laidByText := true, laidKinds := [.sentinel, .sentinel, .sentinel, .sentinel, .sentinel, .sentinel, .sentinel], laidTests := true, laidLooks := .later }
def FnExactTakeOldestCardSaid : Prop := Claim7.holds Tryd.pinned (.plain (OpenSpec.ofChange fnExactTakeOldestSpec)) fnExactTakeOldestCard

/-- THE TIED CARD OF 'laws.FnExactTakeEach'. -/
def fnExactTakeEachCard : Claim7 := { stood := { row := fnExactTakeEachRow, standIns := [], harness := (true, "393462431935664eb40558831cb663fde07b1b1ddf000bdbde3afd590ac5434d"), looks := true }, kinds := [], alts := [], laidByText := true, laidKinds := [.sentinel, .sentinel, .sentinel, .sentinel, .sentinel, .sentinel, .sentinel], laidTests := true, laidLooks := .later }
def FnExactTakeEachCardSaid : Prop := Claim7.holds Tryd.pinned (.plain (OpenSpec.ofChange fnExactTakeEachSpec)) fnExactTakeEachCard

/-- THE TIED CARD OF 'laws.FnExactBestTurn'. -/
def fnExactBestTurnCard : Claim7 := { stood := { row := fnExactBestTurnRow, standIns := [], harness := (true, "393462431935664eb40558831cb663fde07b1b1ddf000bdbde3afd590ac5434d"), looks := true }, kinds := [], alts := [], laidByText := true, laidKinds := [.sentinel, .sentinel, .sentinel, .sentinel, .sentinel, .sentinel, .sentinel], laidTests := true, laidLooks := .later }
def FnExactBestTurnCardSaid : Prop := Claim7.holds Tryd.pinned (.plain (OpenSpec.ofChange fnExactBestTurnSpec)) fnExactBestTurnCard

/-- THE TIED CARD OF 'laws.FnExactFirstUnfair'. -/
def fnExactFirstUnfairCard : Claim7 := { stood := { row := fnExactFirstUnfairRow, standIns := [], harness := (true, "393462431935664eb40558831cb663fde07b1b1ddf000bdbde3afd590ac5434d"), looks := true }, kinds := [], alts := [], laidByText := true, laidKinds := [.sentinel, .sentinel, .sentinel, .sentinel, .sentinel, .sentinel, .sentinel], laidTests := true, laidLooks := .later }
def FnExactFirstUnfairCardSaid : Prop := Claim7.holds Tryd.pinned (.plain (OpenSpec.ofChange fnExactFirstUnfairSpec)) fnExactFirstUnfairCard

/-- THE SECOND FORM's CARD OF 'laws.FnExactReachOut'. -/
def fnExactReachOutUptoCard : Claim7 := { stood := { row := fnExactReachOutUptoRow, standIns := [], harness := (true, "393462431935664eb40558831cb663fde07b1b1ddf000bdbde3afd590ac5434d"), looks := true }, kinds := [], alts := [], laidByText := true, laidKinds := [.sentinel, .sentinel, .sentinel, .sentinel, .sentinel, .sentinel, .sentinel], laidTests := true, laidLooks := .later }
def FnExactReachOutUptoCardSaid : Prop := Claim7.holds Tryd.pinned (.plain (OpenSpec.upto fnExactReachOutSpec)) fnExactReachOutUptoCard

/-- THE SECOND FORM's CARD OF 'laws.FnExactTakeOldest'. -/
def fnExactTakeOldestUptoCard : Claim7 := { stood := { row := fnExactTakeOldestUptoRow, standIns := [], harness := (true, "393462431935664eb40558831cb663fde07b1b1ddf000bdbde3afd590ac5434d"), looks := true }, kinds := [], alts := [], laidByText := true, laidKinds := [.sentinel, .sentinel, .sentinel, .sentinel, .sentinel, .sentinel, .sentinel], laidTests := true, laidLooks := .later }
def FnExactTakeOldestUptoCardSaid : Prop := Claim7.holds Tryd.pinned (.plain (OpenSpec.upto fnExactTakeOldestSpec)) fnExactTakeOldestUptoCard

/-- THE SECOND FORM's CARD OF 'laws.FnExactTakeEach'. -/
def fnExactTakeEachUptoCard : Claim7 := { stood := { row := fnExactTakeEachUptoRow, standIns := [], harness := (true, "393462431935664eb40558831cb663fde07b1b1ddf000bdbde3afd590ac5434d"), looks := true }, kinds := [], alts := [], laidByText := true, laidKinds := [.sentinel, .sentinel, .sentinel, .sentinel, .sentinel, .sentinel, .sentinel], laidTests := true, laidLooks := .later }
def FnExactTakeEachUptoCardSaid : Prop := Claim7.holds Tryd.pinned (.plain (OpenSpec.upto fnExactTakeEachSpec)) fnExactTakeEachUptoCard

/-- THE SECOND FORM's CARD OF 'laws.FnExactBestTurn'. -/
def fnExactBestTurnUptoCard : Claim7 := { stood := { row := fnExactBestTurnUptoRow, standIns := [], harness := (true, "393462431935664eb40558831cb663fde07b1b1ddf000bdbde3afd590ac5434d"), looks := true }, kinds := [], alts := [], laidByText := true, laidKinds := [.sentinel, .sentinel, .sentinel, .sentinel, .sentinel, .sentinel, .sentinel], laidTests := true, laidLooks := .later }
def FnExactBestTurnUptoCardSaid : Prop := Claim7.holds Tryd.pinned (.plain (OpenSpec.upto fnExactBestTurnSpec)) fnExactBestTurnUptoCard

/-- THE SECOND FORM's CARD OF 'laws.FnExactFirstUnfair'. -/
def fnExactFirstUnfairUptoCard : Claim7 := { stood := { row := fnExactFirstUnfairUptoRow, standIns := [], harness := (true, "393462431935664eb40558831cb663fde07b1b1ddf000bdbde3afd590ac5434d"), looks := true }, kinds := [], alts := [], laidByText := true, laidKinds := [.sentinel, .sentinel, .sentinel, .sentinel, .sentinel, .sentinel, .sentinel], laidTests := true, laidLooks := .later }
def FnExactFirstUnfairUptoCardSaid : Prop := Claim7.holds Tryd.pinned (.plain (OpenSpec.upto fnExactFirstUnfairSpec)) fnExactFirstUnfairUptoCard
end Rows
end Go.Proofs.YtmfdgpinohbckaaDoor
