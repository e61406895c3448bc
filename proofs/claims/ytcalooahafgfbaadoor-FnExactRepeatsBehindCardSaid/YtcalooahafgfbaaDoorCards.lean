/-
  DERIVED. GIVEN WITH THE SEED: THE CARDS: each row of YtcalooahafgfbaaDoorRows.lean that lists a variable, with what it lists TIED to the program's text (the seventh form; the later family's looks); each row that meets fmt, with fmt's text TOLD by the authors' own Lean function (tested against real Go, not proved from fmt's source: count such statements apart). THE CARD IS WHAT COUNTS. Prove the row's statement (the work); the ties are given (YtcalooahafgfbaaDoorTie.lean); close each card by the builder's one call (the guide's Derived/Test/ToyasCard.lean, 'card_holds'). Laid BY PROGRAM, IN A SANDBOX (cutbox-door.mjs). By AI agents, Wed Nov 11 2026. No macro, syntax, notation, axiom, sorry.
-/
import Derived.Test.YtcalooahafgfbaaDoorRows
import GoSem.ClaimSeven
namespace Go.Proofs.YtcalooahafgfbaaDoor
namespace Rows

/-- THE TIED CARD OF 'laws.FnExactRepeatsBehind'. -/
def fnExactRepeatsBehindCard : Claim7 := { stood := { row := fnExactRepeatsBehindRow, standIns := [], harness := (true, "91035b904de8f2657f2d4ac7b15dfc06cf962f7aa5500b6c8404497f7bb5a157"), looks := true }, kinds := [], alts := [], laidByText := true, laidKinds := [.sentinel, .sentinel, .sentinel, .sentinel, .sentinel, .sentinel, .sentinel], laidTests := true, laidLooks := .later }
def FnExactRepeatsBehindCardSaid : Prop := Claim7.holds Tryd.pinned (.plain (OpenSpec.ofChange fnExactRepeatsBehindSpec)) fnExactRepeatsBehindCard

/-- THE SECOND FORM's CARD OF 'laws.FnExactRepeatsBehind'. -/
def fnExactRepeatsBehindUptoCard : Claim7 := { stood := { row := fnExactRepeatsBehindUptoRow, standIns := [], harness := (true, "91035b904de8f2657f2d4ac7b15dfc06cf962f7aa5500b6c8404497f7bb5a157"), looks := true }, kinds := [], alts := [], laidByText := true, laidKinds := [.sentinel, .sentinel, .sentinel, .sentinel, .sentinel, .sentinel, .sentinel], laidTests := true, laidLooks := .later }
def FnExactRepeatsBehindUptoCardSaid : Prop := Claim7.holds Tryd.pinned (.plain (OpenSpec.upto fnExactRepeatsBehindSpec)) fnExactRepeatsBehindUptoCard
end Rows
end Go.Proofs.YtcalooahafgfbaaDoor
