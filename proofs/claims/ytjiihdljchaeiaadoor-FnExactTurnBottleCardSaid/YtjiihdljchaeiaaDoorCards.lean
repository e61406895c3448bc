/-
  DERIVED. GIVEN WITH THE SEED: THE CARDS: each row of YtjiihdljchaeiaaDoorRows.lean that lists a variable, with what it lists TIED to the program's text (the seventh form; the later family's looks); each row that meets fmt, with fmt's text TOLD by the authors' own Lean function (tested against real Go, not proved from fmt's source: count such statements apart). THE CARD IS WHAT COUNTS. Prove the row's statement (the work); the ties are given (YtjiihdljchaeiaaDoorTie.lean); close each card by the builder's one call (the guide's Derived/Test/ToyasCard.lean, 'card_holds'). Laid BY PROGRAM, IN A SANDBOX (cutbox-door.mjs). By AI agents, Wed Nov 11 2026. No macro, syntax, notation, axiom, sorry.
-/
import Derived.Test.YtjiihdljchaeiaaDoorRows
import GoSem.ClaimSeven
namespace Go.Proofs.YtjiihdljchaeiaaDoor
namespace Rows

/-- THE TIED CARD OF 'laws.FnExactTurnBottle'. -/
def fnExactTurnBottleCard : Claim7 := { stood := { row := fnExactTurnBottleRow, standIns := [], harness := (true, "abf8e5726d74e803434c80f0ea0fde2a2ecc966a883851db5205feacc61ed3a1"), looks := true }, kinds := [], alts := [], laidByText := true, laidKinds := [.sentinel, .sentinel, .sentinel, .sentinel, .sentinel, .sentinel, .sentinel], laidTests := true, laidLooks := .later }
def FnExactTurnBottleCardSaid : Prop := Claim7.holds Tryd.pinned (.plain (OpenSpec.ofChange fnExactTurnBottleSpec)) fnExactTurnBottleCard

/-- THE SECOND FORM's CARD OF 'laws.FnExactTurnBottle'. -/
def fnExactTurnBottleUptoCard : Claim7 := { stood := { row := fnExactTurnBottleUptoRow, standIns := [], harness := (true, "abf8e5726d74e803434c80f0ea0fde2a2ecc966a883851db5205feacc61ed3a1"), looks := true }, kinds := [], alts := [], laidByText := true, laidKinds := [.sentinel, .sentinel, .sentinel, .sentinel, .sentinel, .sentinel, .sentinel], laidTests := true, laidLooks := .later }
def FnExactTurnBottleUptoCardSaid : Prop := Claim7.holds Tryd.pinned (.plain (OpenSpec.upto fnExactTurnBottleSpec)) fnExactTurnBottleUptoCard
end Rows
end Go.Proofs.YtjiihdljchaeiaaDoor
