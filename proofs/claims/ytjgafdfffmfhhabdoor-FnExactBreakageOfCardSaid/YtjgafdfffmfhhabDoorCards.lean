/-
  DERIVED. GIVEN WITH THE SEED: THE CARDS: each row of YtjgafdfffmfhhabDoorRows.lean that lists a variable, with what it lists TIED to the program's text (the seventh form; the later family's looks); each row that meets fmt, with fmt's text TOLD by the authors' own Lean function (tested against real Go, not proved from fmt's source: count such statements apart). THE CARD IS WHAT COUNTS. Prove the row's statement (the work); the ties are given (YtjgafdfffmfhhabDoorTie.lean); close each card by the builder's one call (the guide's Derived/Test/ToyasCard.lean, 'card_holds'). Laid BY PROGRAM, IN A SANDBOX (cutbox-door.mjs). By AI agents, Wed Nov 11 2026. No macro, syntax, notation, axiom, sorry.
-/
import Derived.Test.YtjgafdfffmfhhabDoorRows
import GoSem.ClaimSeven
namespace Go.Proofs.YtjgafdfffmfhhabDoor
namespace Rows

/-- THE TIED CARD OF 'laws.FnExactOutAt'. -/
def fnExactOutAtCard : Claim7 := { stood := { row := fnExactOutAtRow, standIns := [], harness := (true, "7c7dc97e3c00c23dff47975f9a67ba63eb57b79a8120d301bf0fe0b8f9fcb832"), looks := true }, kinds := [], alts := [], laidByText := true, laidKinds := [.sentinel, .sentinel, .sentinel, .sentinel, .sentinel, .sentinel, .sentinel], laidTests := true, laidLooks := .later }
def FnExactOutAtCardSaid : Prop := Claim7.holds Tryd.pinned (.plain (OpenSpec.ofChange fnExactOutAtSpec)) fnExactOutAtCard

/-- THE TIED CARD OF 'laws.FnExactNetsOf'. -/
def fnExactNetsOfCard : Claim7 := { stood := { row := fnExactNetsOfRow, standIns := [], harness := (true, "7c7dc97e3c00c23dff47975f9a67ba63eb57b79a8120d301bf0fe0b8f9fcb832"), looks := true }, kinds := [], alts := [], laidByText := true, laidKinds := [.sentinel, .sentinel, .sentinel, .sentinel, .sentinel, .sentinel, .sentinel], laidTests := true, laidLooks := .later }
def FnExactNetsOfCardSaid : Prop := Claim7.holds Tryd.pinned (.plain (OpenSpec.ofChange fnExactNetsOfSpec)) fnExactNetsOfCard

/-- THE TIED CARD OF 'laws.FnExactBreakageOf'. -/
def fnExactBreakageOfCard : Claim7 := { stood := { row := fnExactBreakageOfRow, standIns := [], harness := (true, "7c7dc97e3c00c23dff47975f9a67ba63eb57b79a8120d301bf0fe0b8f9fcb832"), looks := true }, kinds := [], alts := [], laidByText := true, laidKinds := [.sentinel, .sentinel, .sentinel, .sentinel, .sentinel, .sentinel], laidTests := true, laidLooks := .later }
def FnExactBreakageOfCardSaid : Prop := Claim7.holds Tryd.pinned (.plain (OpenSpec.ofChange fnExactBreakageOfSpec)) fnExactBreakageOfCard

/-- THE TIED CARD OF 'laws.FnExactLentBetween'. -/
def fnExactLentBetweenCard : Claim7 := { stood := { row := fnExactLentBetweenRow, standIns := [], harness := (true, "7c7dc97e3c00c23dff47975f9a67ba63eb57b79a8120d301bf0fe0b8f9fcb832"), looks := true }, kinds := [], alts := [], laidByText := true, laidKinds := [.sentinel, .sentinel, .sentinel, .sentinel, .sentinel, .sentinel, .sentinel], laidTests := true, laidLooks := .later }
def FnExactLentBetweenCardSaid : Prop := Claim7.holds Tryd.pinned (.plain (OpenSpec.ofChange fnExactLentBetweenSpec)) fnExactLentBetweenCard

/-- THE SECOND FORM's CARD OF 'laws.FnExactOutAt'. -/
def fnExactOutAtUptoCard : Claim7 := { stood := { row := fnExactOutAtUptoRow, standIns := [], harness := (true, "7c7dc97e3c00c23dff47975f9a67ba63eb57b79a8120d301bf0fe0b8f9fcb832"), looks := true }, kinds := [], alts := [], laidByText := true, laidKinds := [.sentinel, .sentinel, .sentinel, .sentinel, .sentinel, .sentinel, .sentinel], laidTests := true, laidLooks := .later }
def FnExactOutAtUptoCardSaid : Prop := Claim7.holds Tryd.pinned (.plain (OpenSpec.upto fnExactOutAtSpec)) fnExactOutAtUptoCard

/-- THE SECOND FORM's CARD OF 'laws.FnExactNetsOf'. -/
def fnExactNetsOfUptoCard : Claim7 := { stood := { row := fnExactNetsOfUptoRow, standIns := [], harness := (true, "7c7dc97e3c00c23dff47975f9a67ba63eb57b79a8120d301bf0fe0b8f9fcb832"), looks := true }, kinds := [], alts := [], laidByText := true, laidKinds := [.sentinel, .sentinel, .sentinel, .sentinel, .sentinel, .sentinel, .sentinel], laidTests := true, laidLooks := .later }
def FnExactNetsOfUptoCardSaid : Prop := Claim7.holds Tryd.pinned (.plain (OpenSpec.upto fnExactNetsOfSpec)) fnExactNetsOfUptoCard

/-- THE SECOND FORM's CARD OF 'laws.FnExactBreakageOf'. -/
def fnExactBreakageOfUptoCard : Claim7 := { stood := { row := fnExactBreakageOfUptoRow, standIns := [], harness := (true, "7c7dc97e3c00c23dff47975f9a67ba63eb57b79a8120d301bf0fe0b8f9fcb832"), looks := true }, kinds := [], alts := [], laidByText := true, laidKinds := [.sentinel, .sentinel, .sentinel, .sentinel, .sentinel, .sentinel], laidTests := true, laidLooks := .later }
def FnExactBreakageOfUptoCardSaid : Prop := Claim7.holds Tryd.pinned (.plain (OpenSpec.upto fnExactBreakageOfSpec)) fnExactBreakageOfUptoCard

/-- THE SECOND FORM's CARD OF 'laws.FnExactLentBetween'. -/
def fnExactLentBetweenUptoCard : Claim7 := { stood := { row := fnExactLentBetweenUptoRow, standIns := [], harness := (true, "7c7dc97e3c00c23dff47975f9a67ba63eb57b79a8120d301bf0fe0b8f9fcb832"), looks := true }, kinds := [], alts := [], laidByText := true, laidKinds := [.sentinel, .sentinel, .sentinel, .sentinel, .sentinel, .sentinel, .sentinel], laidTests := true, laidLooks := .later }
def FnExactLentBetweenUptoCardSaid : Prop := Claim7.holds Tryd.pinned (.plain (OpenSpec.upto fnExactLentBetweenSpec)) fnExactLentBetweenUptoCard
end Rows
end Go.Proofs.YtjgafdfffmfhhabDoor
