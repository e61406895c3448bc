/-
  DERIVED. GIVEN WITH THE SEED: THE CARDS: each row of YtdgcgkeclcpafaaDoorRows.lean that lists a variable, with what it lists TIED to the program's text (the seventh form; the later family's looks); each row that meets fmt, with fmt's text TOLD by the authors' own Lean function (tested against real Go, not proved from fmt's source: count such statements apart). THE CARD IS WHAT COUNTS. Prove the row's statement (the work); the ties are given (YtdgcgkeclcpafaaDoorTie.lean); close each card by the builder's one call (the guide's Derived/Test/ToyasCard.lean, 'card_holds'). Laid BY PROGRAM, IN A SANDBOX (cutbox-door.mjs). By AI agents, Wed Nov 11 2026. No macro, syntax, notation, axiom, sorry.
-/
import Derived.Test.YtdgcgkeclcpafaaDoorRows
import GoSem.ClaimSeven
namespace Go.Proofs.YtdgcgkeclcpafaaDoor
namespace Rows

/-- THE TIED CARD OF 'laws.FnExactOldestOf'. -/
def fnExactOldestOfCard : Claim7 := { stood := { row := fnExactOldestOfRow, standIns := [], harness := (true, "5f72cc5735b1eb4a03df5fc92bdd85c8a520b2a8d5a43f4c212d2369bc7a6efc"), looks := true }, kinds := [], alts := [], laidByText := true, laidKinds := [.sentinel, .sentinel, .sentinel, .sentinel, .sentinel, .sentinel, .sentinel], laidTests := true, laidLooks := .later }
def FnExactOldestOfCardSaid : Prop := Claim7.holds Tryd.pinned (.plain (OpenSpec.ofChange fnExactOldestOfSpec)) fnExactOldestOfCard

/-- THE TIED CARD OF 'laws.FnExactChoiceOf'. -/
def fnExactChoiceOfCard : Claim7 := { stood := { row := fnExactChoiceOfRow, standIns := [], harness := (true, "5f72cc5735b1eb4a03df5fc92bdd85c8a520b2a8d5a43f4c212d2369bc7a6efc"), looks := true }, kinds := [], alts := [], laidByText := true, laidKinds := [.sentinel, .sentinel, .sentinel, .sentinel, .sentinel, .sentinel, .sentinel], laidTests := true, laidLooks := .later }
def FnExactChoiceOfCardSaid : Prop := Claim7.holds Tryd.pinned (.plain (OpenSpec.ofChange fnExactChoiceOfSpec)) fnExactChoiceOfCard

/-- THE TIED CARD OF 'laws.FnExactStoreAll'. -/
def fnExactStoreAllCard : Claim7 := { stood := { row := fnExactStoreAllRow, standIns := [], harness := (true, "5f72cc5735b1eb4a03df5fc92bdd85c8a520b2a8d5a43f4c212d2369bc7a6efc"), looks := true }, kinds := [], alts := [], laidByText := true, laidKinds := [.sentinel, .sentinel, .sentinel, .sentinel, .sentinel, .sentinel, .sentinel], laidTests := true, laidLooks := .later }
def FnExactStoreAllCardSaid : Prop := Claim7.holds Tryd.pinned (.plain (OpenSpec.ofChange fnExactStoreAllSpec)) fnExactStoreAllCard

/-- THE TIED CARD OF 'laws.FnExactReachOut'. -/
def fnExactReachOutCard : Claim7 := { stood := { row := fnExactReachOutRow, standIns := [], harness := (true, "5f72cc5735b1eb4a03df5fc92bdd85c8a520b2a8d5a43f4c212d2369bc7a6efc"), looks := true }, kinds := [], alts := [], laidByText := true, laidKinds := [.sentinel, .sentinel, .sentinel, .sentinel, .sentinel, .sentinel, .sentinel], laidTests := true, laidLooks := .later }
def FnExactReachOutCardSaid : Prop := Claim7.holds Tryd.pinned (.plain (OpenSpec.ofChange fnExactReachOutSpec)) fnExactReachOutCard

/-- THE SECOND FORM's CARD OF 'laws.FnExactOldestOf'. -/
def fnExactOldestOfUptoCard : Claim7 := { stood := { row := fnExactOldestOfUptoRow, standIns := [], harness := (true, "5f72cc5735b1eb4a03df5fc92bdd85c8a520b2a8d5a43f4c212d2369bc7a6efc"), looks := true }, kinds := [], alts := [], laidByText := true, laidKinds := [.sentinel, .sentinel, .sentinel, .sentinel, .sentinel, .sentinel, .sentinel], laidTests := true, laidLooks := .later }
def FnExactOldestOfUptoCardSaid : Prop := Claim7.holds Tryd.pinned (.plain (OpenSpec.upto fnExactOldestOfSpec)) fnExactOldestOfUptoCard

/-- THE SECOND FORM's CARD OF 'laws.FnExactChoiceOf'. -/
def fnExactChoiceOfUptoCard : Claim7 := { stood := { row := fnExactChoiceOfUptoRow, standIns := [], harness := (true, "5f72cc5735b1eb4a03df5fc92bdd85c8a520b2a8d5a43f4c212d2369bc7a6efc"), looks := true }, kinds := [], alts := [], laidByText := true, laidKinds := [.sentinel, .sentinel, .sentinel, .sentinel, .sentinel, .sentinel, .sentinel], laidTests := true, laidLooks := .later }
def FnExactChoiceOfUptoCardSaid : Prop := Claim7.holds Tryd.pinned (.plain (OpenSpec.upto fnExactChoiceOfSpec)) fnExactChoiceOfUptoCard

/-- THE SECOND FORM's CARD OF 'laws.FnExactStoreAll'. -/
def fnExactStoreAllUptoCard : Claim7 := { stood := { row := fnExactStoreAllUptoRow, standIns := [], harness := (true, "5f72cc5735b1eb4a03df5fc92bdd85c8a520b2a8d5a43f4c212d2369bc7a6efc"), looks := true }, kinds := [], alts := [], laidByText := true, laidKinds := [.sentinel, .sentinel, .sentinel, .sentinel, .sentinel, .sentinel, .sentinel], laidTests := true, laidLooks := .later }
def FnExactStoreAllUptoCardSaid : Prop := Claim7.holds Tryd.pinned (.plain (OpenSpec.upto fnExactStoreAllSpec)) fnExactStoreAllUptoCard

/-- THE SECOND FORM's CARD OF 'laws.FnExactReachOut'. -/
def fnExactReachOutUptoCard : Claim7 := { stood := { row := fnExactReachOutUptoRow, standIns := [], harness := (true, "5f72cc5735b1eb4a03df5fc92bdd85c8a520b2a8d5a43f4c212d2369bc7a6efc"), looks := true }, kinds := [], alts := [], laidByText := true, laidKinds := [.sentinel, .sentinel, .sentinel, .sentinel, .sentinel, .sentinel, .sentinel], laidTests := true, laidLooks := .later }
def FnExactReachOutUptoCardSaid : Prop := Claim7.holds Tryd.pinned (.plain (OpenSpec.upto fnExactReachOutSpec)) fnExactReachOutUptoCard
end Rows
end Go.Proofs.YtdgcgkeclcpafaaDoor
