/-
  DERIVED. GIVEN WITH THE SEED: THE CARDS: each row of YtcdhmlalpjcidaaDoorRows.lean that lists a variable, with what it lists TIED to the program's text (the seventh form; the later family's looks); each row that meets fmt, with fmt's text TOLD by the authors' own Lean function (tested against real Go, not proved from fmt's source: count such statements apart). THE CARD IS WHAT COUNTS. Prove the row's statement (the work); the ties are given (YtcdhmlalpjcidaaDoorTie.lean); close each card by the builder's one call (the guide's Derived/Test/ToyasCard.lean, 'card_holds'). Laid BY PROGRAM, IN A SANDBOX (cutbox-door.mjs). By AI agents, Wed Nov 11 2026. No macro, syntax, notation, axiom, sorry.
-/
import Derived.Test.YtcdhmlalpjcidaaDoorRows
import GoSem.ClaimSeven
namespace Go.Proofs.YtcdhmlalpjcidaaDoor
namespace Rows

/-- THE TIED CARD OF 'laws.FnExactMostOf'. -/
def fnExactMostOfCard : Claim7 := { stood := { row := fnExactMostOfRow, standIns := [], harness := (true, "49d90bac68d0cd9344ed995165090c5ea0e17ddadf806f3922917be3e57b9918"), looks := true }, kinds := [], alts := [], laidByText := true, laidKinds := [.sentinel, .sentinel, .sentinel, .sentinel, .sentinel, .sentinel, .sentinel], laidTests := true, laidLooks := .later }
def FnExactMostOfCardSaid : Prop := Claim7.holds Tryd.pinned (.plain (OpenSpec.ofChange fnExactMostOfSpec)) fnExactMostOfCard

/-- THE TIED CARD OF 'laws.FnExactTakeOut'. -/
def fnExactTakeOutCard : Claim7 := { stood := { row := fnExactTakeOutRow, standIns := [], harness := (true, "49d90bac68d0cd9344ed995165090c5ea0e17ddadf806f3922917be3e57b9918"), looks := true }, kinds := [], alts := [], laidByText := true, laidKinds := [.sentinel, .sentinel, .sentinel, .sentinel, .sentinel, .sentinel, .sentinel], laidTests := true, laidLooks := .later }
def FnExactTakeOutCardSaid : Prop := Claim7.holds Tryd.pinned (.plain (OpenSpec.ofChange fnExactTakeOutSpec)) fnExactTakeOutCard

/-- THE TIED CARD OF 'laws.FnExactOpenBound'. -/
def fnExactOpenBoundCard : Claim7 := { stood := { row := fnExactOpenBoundRow, standIns := [], harness := (true, "49d90bac68d0cd9344ed995165090c5ea0e17ddadf806f3922917be3e57b9918"), looks := true }, kinds := [], alts := [], laidByText := true, laidKinds := [.sentinel, .sentinel, .sentinel, .sentinel, .sentinel, .sentinel, .sentinel], laidTests := true, laidLooks := .later }
def FnExactOpenBoundCardSaid : Prop := Claim7.holds Tryd.pinned (.plain (OpenSpec.ofChange fnExactOpenBoundSpec)) fnExactOpenBoundCard

/-- THE TIED CARD OF 'laws.FnExactFewestOpen'. -/
def fnExactFewestOpenCard : Claim7 := { stood := { row := fnExactFewestOpenRow, standIns := [], harness := (true, "49d90bac68d0cd9344ed995165090c5ea0e17ddadf806f3922917be3e57b9918"), looks := true }, kinds := [], alts := [], laidByText := true, laidKinds := [.sentinel, .sentinel, .sentinel, .sentinel, .sentinel, .sentinel, .sentinel], laidTests := true, laidLooks := .later }
def FnExactFewestOpenCardSaid : Prop := Claim7.holds Tryd.pinned (.plain (OpenSpec.ofChange fnExactFewestOpenSpec)) fnExactFewestOpenCard

/-- THE SECOND FORM's CARD OF 'laws.FnExactMostOf'. -/
def fnExactMostOfUptoCard : Claim7 := { stood := { row := fnExactMostOfUptoRow, standIns := [], harness := (true, "49d90bac68d0cd9344ed995165090c5ea0e17ddadf806f3922917be3e57b9918"), looks := true }, kinds := [], alts := [], laidByText := true, laidKinds := [.sentinel, .sentinel, .sentinel, .sentinel, .sentinel, .sentinel, .sentinel], laidTests := true, laidLooks := .later }
def FnExactMostOfUptoCardSaid : Prop := Claim7.holds Tryd.pinned (.plain (OpenSpec.upto fnExactMostOfSpec)) fnExactMostOfUptoCard

/-- THE SECOND FORM's CARD OF 'laws.FnExactTakeOut'. -/
def fnExactTakeOutUptoCard : Claim7 := { stood := { row := fnExactTakeOutUptoRow, standIns := [], harness := (true, "49d90bac68d0cd9344ed995165090c5ea0e17ddadf806f3922917be3e57b9918"), looks := true }, kinds := [], alts := [], laidByText := true, laidKinds := [.sentinel, .sentinel, .sentinel, .sentinel, .sentinel, .sentinel, .sentinel], laidTests := true, laidLooks := .later }
def FnExactTakeOutUptoCardSaid : Prop := Claim7.holds Tryd.pinned (.plain (OpenSpec.upto fnExactTakeOutSpec)) fnExactTakeOutUptoCard

/-- THE SECOND FORM's CARD OF 'laws.FnExactOpenBound'. -/
def fnExactOpenBoundUptoCard : Claim7 := { stood := { row := fnExactOpenBoundUptoRow, standIns := [], harness := (true, "49d90bac68d0cd9344ed995165090c5ea0e17ddadf806f3922917be3e57b9918"), looks := true }, kinds := [], alts := [], laidByText := true, laidKinds := [.sentinel, .sentinel, .sentinel, .sentinel, .sentinel, .sentinel, .sentinel], laidTests := true, laidLooks := .later }
def FnExactOpenBoundUptoCardSaid : Prop := Claim7.holds Tryd.pinned (.plain (OpenSpec.upto fnExactOpenBoundSpec)) fnExactOpenBoundUptoCard

/-- THE SECOND FORM's CARD OF 'laws.FnExactFewestOpen'. -/
def fnExactFewestOpenUptoCard : Claim7 := { stood := { row := fnExactFewestOpenUptoRow, standIns := [], harness := (true, "49d90bac68d0cd9344ed995165090c5ea0e17ddadf806f3922917be3e57b9918"), looks := true }, kinds := [], alts := [], laidByText := true, laidKinds := [.sentinel, .sentinel, .sentinel, .sentinel, .sentinel, .sentinel, .sentinel], laidTests := true, laidLooks := .later }
def FnExactFewestOpenUptoCardSaid : Prop := Claim7.holds Tryd.pinned (.plain (OpenSpec.upto fnExactFewestOpenSpec)) fnExactFewestOpenUptoCard
end Rows
end Go.Proofs.YtcdhmlalpjcidaaDoor
