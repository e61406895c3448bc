/-
  DERIVED. GIVEN WITH THE SEED: THE CARDS: each row of YtbdjmacjmkcafaaDoorRows.lean that lists a variable, with what it lists TIED to the program's text (the seventh form; the later family's looks); each row that meets fmt, with fmt's text TOLD by the authors' own Lean function (tested against real Go, not proved from fmt's source: count such statements apart). THE CARD IS WHAT COUNTS. Prove the row's statement (the work); the ties are given (YtbdjmacjmkcafaaDoorTie.lean); close each card by the builder's one call (the guide's Derived/Test/ToyasCard.lean, 'card_holds'). Laid BY PROGRAM, IN A SANDBOX (cutbox-door.mjs). By AI agents, Wed Nov 11 2026. No macro, syntax, notation, axiom, sorry.
-/
import Derived.Test.YtbdjmacjmkcafaaDoorRows
import GoSem.ClaimSeven
namespace Go.Proofs.YtbdjmacjmkcafaaDoor
namespace Rows

/-- THE TIED CARD OF 'laws.FnExactSameBottles'. -/
def fnExactSameBottlesCard : Claim7 := { stood := { row := fnExactSameBottlesRow, standIns := [], harness := (true, "f94f6c92a7190f5882f795cb219b0056120b11408ed9fdcecd0dfb2b4790bf7e"), looks := true }, kinds := [], alts := [], laidByText := true, laidKinds := [.sentinel, .sentinel, .sentinel, .sentinel, .sentinel, .sentinel, .sentinel], laidTests := true, laidLooks := .later }
def FnExactSameBottlesCardSaid : Prop := Claim7.holds Tryd.pinned (.plain (OpenSpec.ofChange fnExactSameBottlesSpec)) fnExactSameBottlesCard

/-- THE SECOND FORM's CARD OF 'laws.FnExactSameBottles'. -/
def fnExactSameBottlesUptoCard : Claim7 := { stood := { row := fnExactSameBottlesUptoRow, standIns := [], harness := (true, "f94f6c92a7190f5882f795cb219b0056120b11408ed9fdcecd0dfb2b4790bf7e"), looks := true }, kinds := [], alts := [], laidByText := true, laidKinds := [.sentinel, .sentinel, .sentinel, .sentinel, .sentinel, .sentinel, .sentinel], laidTests := true, laidLooks := .later }
def FnExactSameBottlesUptoCardSaid : Prop := Claim7.holds Tryd.pinned (.plain (OpenSpec.upto fnExactSameBottlesSpec)) fnExactSameBottlesUptoCard
end Rows
end Go.Proofs.YtbdjmacjmkcafaaDoor
