/-
  DERIVED. GIVEN WITH THE SEED: THE CARDS: each row of YtjjdehnpnfdjcaaDoorRows.lean that lists a variable, with what it lists TIED to the program's text (the seventh form; the later family's looks); each row that meets fmt, with fmt's text TOLD by the authors' own Lean function (tested against real Go, not proved from fmt's source: count such statements apart). THE CARD IS WHAT COUNTS. Prove the row's statement (the work); the ties are given (YtjjdehnpnfdjcaaDoorTie.lean); close each card by the builder's one call (the guide's Derived/Test/ToyasCard.lean, 'card_holds'). Laid BY PROGRAM, IN A SANDBOX (cutbox-door.mjs). By AI agents, Wed Nov 11 2026. No macro, syntax, notation, axiom, sorry.
-/
import Derived.Test.YtjjdehnpnfdjcaaDoorRows
import GoSem.ClaimSeven
namespace Go.Proofs.YtjjdehnpnfdjcaaDoor
namespace Rows

/-- THE TIED CARD OF 'laws.FnExactWalkerText'. -/
def fnExactWalkerTextCard : Claim7 := { stood := { row := fnExactWalkerTextRow, standIns := [], harness := (true, "83fd9dceb0bc79bc2fcac88bc3a20ad788b2b8d0ed7826ca20a80238c8ebc795"), looks := false }, kinds := [], alts := [], laidByText := true, laidKinds := [.data, .data, .data], laidTests := true, laidLooks := .later }
def FnExactWalkerTextCardSaid : Prop := Claim7.holds Tryd.pinned (.plain (OpenSpec.ofChange fnExactWalkerTextSpec)) fnExactWalkerTextCard

/-- THE TIED CARD OF 'laws.FnExactSwapsText'. -/
def fnExactSwapsTextCard : Claim7 := { stood := { row := fnExactSwapsTextRow, standIns := [], harness := (true, "83fd9dceb0bc79bc2fcac88bc3a20ad788b2b8d0ed7826ca20a80238c8ebc795"), looks := false }, kinds := [], alts := [], laidByText := true, laidKinds := [.data, .data, .data, .sentinel, .sentinel], laidTests := true, laidLooks := .later }
def FnExactSwapsTextCardSaid : Prop := Claim7.holds Tryd.pinned (.plain (OpenSpec.ofChange fnExactSwapsTextSpec)) fnExactSwapsTextCard

/-- THE SECOND FORM's CARD OF 'laws.FnExactWalkerText'. -/
def fnExactWalkerTextUptoCard : Claim7 := { stood := { row := fnExactWalkerTextUptoRow, standIns := [], harness := (true, "83fd9dceb0bc79bc2fcac88bc3a20ad788b2b8d0ed7826ca20a80238c8ebc795"), looks := false }, kinds := [], alts := [], laidByText := true, laidKinds := [.data, .data, .data], laidTests := true, laidLooks := .later }
def FnExactWalkerTextUptoCardSaid : Prop := Claim7.holds Tryd.pinned (.plain (OpenSpec.upto fnExactWalkerTextSpec)) fnExactWalkerTextUptoCard

/-- THE SECOND FORM's CARD OF 'laws.FnExactSwapsText'. -/
def fnExactSwapsTextUptoCard : Claim7 := { stood := { row := fnExactSwapsTextUptoRow, standIns := [], harness := (true, "83fd9dceb0bc79bc2fcac88bc3a20ad788b2b8d0ed7826ca20a80238c8ebc795"), looks := false }, kinds := [], alts := [], laidByText := true, laidKinds := [.data, .data, .data, .sentinel, .sentinel], laidTests := true, laidLooks := .later }
def FnExactSwapsTextUptoCardSaid : Prop := Claim7.holds Tryd.pinned (.plain (OpenSpec.upto fnExactSwapsTextSpec)) fnExactSwapsTextUptoCard
end Rows
end Go.Proofs.YtjjdehnpnfdjcaaDoor
