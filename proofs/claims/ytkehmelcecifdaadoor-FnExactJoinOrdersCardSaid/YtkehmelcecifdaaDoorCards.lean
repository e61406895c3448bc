/-
  DERIVED. GIVEN WITH THE SEED: THE CARDS: each row of YtkehmelcecifdaaDoorRows.lean that lists a variable, with what it lists TIED to the program's text (the seventh form; the later family's looks); each row that meets fmt, with fmt's text TOLD by the authors' own Lean function (tested against real Go, not proved from fmt's source: count such statements apart). THE CARD IS WHAT COUNTS. Prove the row's statement (the work); the ties are given (YtkehmelcecifdaaDoorTie.lean); close each card by the builder's one call (the guide's Derived/Test/ToyasCard.lean, 'card_holds'). Laid BY PROGRAM, IN A SANDBOX (cutbox-door.mjs). By AI agents, Wed Nov 11 2026. No macro, syntax, notation, axiom, sorry.
-/
import Derived.Test.YtkehmelcecifdaaDoorRows
import GoSem.ClaimSeven
namespace Go.Proofs.YtkehmelcecifdaaDoor
namespace Rows

/-- THE TIED CARD OF 'laws.FnExactBestTurn'. -/
def fnExactBestTurnCard : Claim7 := { stood := { row := fnExactBestTurnRow, standIns := [], harness := (true, "09a64fa9d8c14c866169f5bfac54ef8d2f6cb2d8f586784c72cdbd5c38e1d875"), looks := true }, kinds := [], alts := [], laidByText := true, laidKinds := [.sentinel, .sentinel, .sentinel, .sentinel, .sentinel, .sentinel, .sentinel], laidTests := true, laidLooks := .later }
def FnExactBestTurnCardSaid : Prop := Claim7.holds Tryd.pinned (.plain (OpenSpec.ofChange fnExactBestTurnSpec)) fnExactBestTurnCard

/-- THE TIED CARD OF 'laws.FnExactSplitOrder'. -/
def fnExactSplitOrderCard : Claim7 := { stood := { row := fnExactSplitOrderRow, standIns := [], harness := (true, "09a64fa9d8c14c866169f5bfac54ef8d2f6cb2d8f586784c72cdbd5c38e1d875"), looks := true }, kinds := [], alts := [], laidByText := true, laidKinds := [.sentinel, .sentinel, .sentinel, .sentinel, .sentinel, .sentinel, .sentinel], laidTests := true, laidLooks := .later }
def FnExactSplitOrderCardSaid : Prop := Claim7.holds Tryd.pinned (.plain (OpenSpec.ofChange fnExactSplitOrderSpec)) fnExactSplitOrderCard

/-- THE TIED CARD OF 'laws.FnExactGreedyOpen'. -/
def fnExactGreedyOpenCard : Claim7 := { stood := { row := fnExactGreedyOpenRow, standIns := [], harness := (true, "09a64fa9d8c14c866169f5bfac54ef8d2f6cb2d8f586784c72cdbd5c38e1d875"), looks := true }, kinds := [], alts := [], laidByText := true, laidKinds := [.sentinel, .sentinel, .sentinel, .sentinel, .sentinel, .sentinel, .sentinel], laidTests := true, laidLooks := .later }
def FnExactGreedyOpenCardSaid : Prop := Claim7.holds Tryd.pinned (.plain (OpenSpec.ofChange fnExactGreedyOpenSpec)) fnExactGreedyOpenCard

/-- THE TIED CARD OF 'laws.FnExactJoinOrders'. -/
def fnExactJoinOrdersCard : Claim7 := { stood := { row := fnExactJoinOrdersRow, standIns := [], harness := (true, "09a64fa9d8c14c866169f5bfac54ef8d2f6cb2d8f586784c72cdbd5c38e1d875"), looks := true }, kinds := [], alts := [], laidByText := true, laidKinds := [.sentinel, .sentinel, .sentinel, .sentinel, .sentinel, .sentinel, .sentinel], laidTests := true, laidLooks := .later }
def FnExactJoinOrdersCardSaid : Prop := Claim7.holds Tryd.pinned (.plain (OpenSpec.ofChange fnExactJoinOrdersSpec)) fnExactJoinOrdersCard

/-- THE SECOND FORM's CARD OF 'laws.FnExactBestTurn'. -/
def fnExactBestTurnUptoCard : Claim7 := { stood := { row := fnExactBestTurnUptoRow, standIns := [], harness := (true, "09a64fa9d8c14c866169f5bfac54ef8d2f6cb2d8f586784c72cdbd5c38e1d875"), looks := true }, kinds := [], alts := [], laidByText := true, laidKinds := [.sentinel, .sentinel, .sentinel, .sentinel, .sentinel, .sentinel, .sentinel], laidTests := true, laidLooks := .later }
def FnExactBestTurnUptoCardSaid : Prop := Claim7.holds Tryd.pinned (.plain (OpenSpec.upto fnExactBestTurnSpec)) fnExactBestTurnUptoCard

/-- THE SECOND FORM's CARD OF 'laws.FnExactSplitOrder'. -/
def fnExactSplitOrderUptoCard : Claim7 := { stood := { row := fnExactSplitOrderUptoRow, standIns := [], harness := (true, "09a64fa9d8c14c866169f5bfac54ef8d2f6cb2d8f586784c72cdbd5c38e1d875"), looks := true }, kinds := [], alts := [], laidByText := true, laidKinds := [.sentinel, .sentinel, .sentinel, .sentinel, .sentinel, .sentinel, .sentinel], laidTests := true, laidLooks := .later }
def FnExactSplitOrderUptoCardSaid : Prop := Claim7.holds Tryd.pinned (.plain (OpenSpec.upto fnExactSplitOrderSpec)) fnExactSplitOrderUptoCard

/-- THE SECOND FORM's CARD OF 'laws.FnExactGreedyOpen'. -/
def fnExactGreedyOpenUptoCard : Claim7 := { stood := { row := fnExactGreedyOpenUptoRow, standIns := [], harness := (true, "09a64fa9d8c14c866169f5bfac54ef8d2f6cb2d8f586784c72cdbd5c38e1d875"), looks := true }, kinds := [], alts := [], laidByText := true, laidKinds := [.sentinel, .sentinel, .sentinel, .sentinel, .sentinel, .sentinel, .sentinel], laidTests := true, laidLooks := .later }
def FnExactGreedyOpenUptoCardSaid : Prop := Claim7.holds Tryd.pinned (.plain (OpenSpec.upto fnExactGreedyOpenSpec)) fnExactGreedyOpenUptoCard

/-- THE SECOND FORM's CARD OF 'laws.FnExactJoinOrders'. -/
def fnExactJoinOrdersUptoCard : Claim7 := { stood := { row := fnExactJoinOrdersUptoRow, standIns := [], harness := (true, "09a64fa9d8c14c866169f5bfac54ef8d2f6cb2d8f586784c72cdbd5c38e1d875"), looks := true }, kinds := [], alts := [], laidByText := true, laidKinds := [.sentinel, .sentinel, .sentinel, .sentinel, .sentinel, .sentinel, .sentinel], laidTests := true, laidLooks := .later }
def FnExactJoinOrdersUptoCardSaid : Prop := Claim7.holds Tryd.pinned (.plain (OpenSpec.upto fnExactJoinOrdersSpec)) fnExactJoinOrdersUptoCard
end Rows
end Go.Proofs.YtkehmelcecifdaaDoor
