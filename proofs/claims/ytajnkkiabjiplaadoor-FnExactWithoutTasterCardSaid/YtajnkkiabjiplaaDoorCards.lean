/-
  DERIVED. GIVEN WITH THE SEED: THE CARDS: each row of YtajnkkiabjiplaaDoorRows.lean that lists a variable, with what it lists TIED to the program's text (the seventh form; the later family's looks); each row that meets fmt, with fmt's text TOLD by the authors' own Lean function (tested against real Go, not proved from fmt's source: count such statements apart). THE CARD IS WHAT COUNTS. Prove the row's statement (the work); the ties are given (YtajnkkiabjiplaaDoorTie.lean); close each card by the builder's one call (the guide's Derived/Test/ToyasCard.lean, 'card_holds'). Laid BY PROGRAM, IN A SANDBOX (cutbox-door.mjs). By AI agents, Wed Nov 11 2026. No macro, syntax, notation, axiom, sorry.
-/
import Derived.Test.YtajnkkiabjiplaaDoorRows
import GoSem.ClaimSeven
namespace Go.Proofs.YtajnkkiabjiplaaDoor
namespace Rows

/-- THE TIED CARD OF 'laws.FnExactValidMarks'. -/
def fnExactValidMarksCard : Claim7 := { stood := { row := fnExactValidMarksRow, standIns := [], harness := (true, "f7207dc85cbdcdfc99efd5e0748091d1e4350b0dd8e46c4ed34d0f9ea034fb00"), looks := true }, kinds := [], alts := [], laidByText := true, laidKinds := [.sentinel, .sentinel], laidTests := true, laidLooks := .later }
def FnExactValidMarksCardSaid : Prop := Claim7.holds Tryd.pinned (.plain (OpenSpec.ofChange fnExactValidMarksSpec)) fnExactValidMarksCard

/-- THE TIED CARD OF 'laws.FnExactBlindNumbers'. -/
def fnExactBlindNumbersCard : Claim7 := { stood := { row := fnExactBlindNumbersRow, standIns := [], harness := (true, "f7207dc85cbdcdfc99efd5e0748091d1e4350b0dd8e46c4ed34d0f9ea034fb00"), looks := true }, kinds := [], alts := [], laidByText := true, laidKinds := [.sentinel, .sentinel, .sentinel, .sentinel, .sentinel, .sentinel], laidTests := true, laidLooks := .later }
def FnExactBlindNumbersCardSaid : Prop := Claim7.holds Tryd.pinned (.plain (OpenSpec.ofChange fnExactBlindNumbersSpec)) fnExactBlindNumbersCard

/-- THE TIED CARD OF 'laws.FnExactWithoutTaster'. -/
def fnExactWithoutTasterCard : Claim7 := { stood := { row := fnExactWithoutTasterRow, standIns := [], harness := (true, "f7207dc85cbdcdfc99efd5e0748091d1e4350b0dd8e46c4ed34d0f9ea034fb00"), looks := true }, kinds := [], alts := [], laidByText := true, laidKinds := [.sentinel, .sentinel, .sentinel, .sentinel, .sentinel, .sentinel, .sentinel], laidTests := true, laidLooks := .later }
def FnExactWithoutTasterCardSaid : Prop := Claim7.holds Tryd.pinned (.plain (OpenSpec.ofChange fnExactWithoutTasterSpec)) fnExactWithoutTasterCard

/-- THE SECOND FORM's CARD OF 'laws.FnExactValidMarks'. -/
def fnExactValidMarksUptoCard : Claim7 := { stood := { row := fnExactValidMarksUptoRow, standIns := [], harness := (true, "f7207dc85cbdcdfc99efd5e0748091d1e4350b0dd8e46c4ed34d0f9ea034fb00"), looks := true }, kinds := [], alts := [], laidByText := true, laidKinds := [.sentinel, .sentinel], laidTests := true, laidLooks := .later }
def FnExactValidMarksUptoCardSaid : Prop := Claim7.holds Tryd.pinned (.plain (OpenSpec.upto fnExactValidMarksSpec)) fnExactValidMarksUptoCard

/-- THE SECOND FORM's CARD OF 'laws.FnExactBlindNumbers'. -/
def fnExactBlindNumbersUptoCard : Claim7 := { stood := { row := fnExactBlindNumbersUptoRow, standIns := [], harness := (true, "f7207dc85cbdcdfc99efd5e0748091d1e4350b0dd8e46c4ed34d0f9ea034fb00"), looks := true }, kinds := [], alts := [], laidByText := true, laidKinds := [.sentinel, .sentinel, .sentinel, .sentinel, .sentinel, .sentinel], laidTests := true, laidLooks := .later }
def FnExactBlindNumbersUptoCardSaid : Prop := Claim7.holds Tryd.pinned (.plain (OpenSpec.upto fnExactBlindNumbersSpec)) fnExactBlindNumbersUptoCard

/-- THE SECOND FORM's CARD OF 'laws.FnExactWithoutTaster'. -/
def fnExactWithoutTasterUptoCard : Claim7 := { stood := { row := fnExactWithoutTasterUptoRow, standIns := [], harness := (true, "f7207dc85cbdcdfc99efd5e0748091d1e4350b0dd8e46c4ed34d0f9ea034fb00"), looks := true }, kinds := [], alts := [], laidByText := true, laidKinds := [.sentinel, .sentinel, .sentinel, .sentinel, .sentinel, .sentinel, .sentinel], laidTests := true, laidLooks := .later }
def FnExactWithoutTasterUptoCardSaid : Prop := Claim7.holds Tryd.pinned (.plain (OpenSpec.upto fnExactWithoutTasterSpec)) fnExactWithoutTasterUptoCard
end Rows
end Go.Proofs.YtajnkkiabjiplaaDoor
