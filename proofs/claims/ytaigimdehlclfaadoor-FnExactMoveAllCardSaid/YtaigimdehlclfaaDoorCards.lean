/-
  DERIVED. GIVEN WITH THE SEED: THE CARDS: each row of YtaigimdehlclfaaDoorRows.lean that lists a variable, with what it lists TIED to the program's text (the seventh form; the later family's looks); each row that meets fmt, with fmt's text TOLD by the authors' own Lean function (tested against real Go, not proved from fmt's source: count such statements apart). THE CARD IS WHAT COUNTS. Prove the row's statement (the work); the ties are given (YtaigimdehlclfaaDoorTie.lean); close each card by the builder's one call (the guide's Derived/Test/ToyasCard.lean, 'card_holds'). Laid BY PROGRAM, IN A SANDBOX (cutbox-door.mjs). By AI agents, Wed Nov 11 2026. No macro, syntax, notation, axiom, sorry.
-/
import Derived.Test.YtaigimdehlclfaaDoorRows
import GoSem.ClaimSeven
namespace Go.Proofs.YtaigimdehlclfaaDoor
namespace Rows

/-- THE TIED CARD OF 'laws.FnExactMoveAll'. -/
def fnExactMoveAllCard : Claim7 := { stood := { row := fnExactMoveAllRow, standIns := [], harness := (true, "0d3f065bd6c6e6f7f784fd170ea6e597391bbe9655202c4988c8aa90a6a93fd5"), looks := true }, kinds := [], alts := [], laidByText := true, laidKinds := [.sentinel, .sentinel, .sentinel, .sentinel, .sentinel, .sentinel, .sentinel], laidTests := true, laidLooks := .later }
def FnExactMoveAllCardSaid : Prop := Claim7.holds Tryd.pinned (.plain (OpenSpec.ofChange fnExactMoveAllSpec)) fnExactMoveAllCard

/-- THE SECOND FORM's CARD OF 'laws.FnExactMoveAll'. -/
def fnExactMoveAllUptoCard : Claim7 := { stood := { row := fnExactMoveAllUptoRow, standIns := [], harness := (true, "0d3f065bd6c6e6f7f784fd170ea6e597391bbe9655202c4988c8aa90a6a93fd5"), looks := true }, kinds := [], alts := [], laidByText := true, laidKinds := [.sentinel, .sentinel, .sentinel, .sentinel, .sentinel, .sentinel, .sentinel], laidTests := true, laidLooks := .later }
def FnExactMoveAllUptoCardSaid : Prop := Claim7.holds Tryd.pinned (.plain (OpenSpec.upto fnExactMoveAllSpec)) fnExactMoveAllUptoCard
end Rows
end Go.Proofs.YtaigimdehlclfaaDoor
