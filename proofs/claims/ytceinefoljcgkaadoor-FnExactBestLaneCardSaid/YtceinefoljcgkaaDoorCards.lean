/-
  DERIVED. GIVEN WITH THE SEED: THE CARDS: each row of YtceinefoljcgkaaDoorRows.lean that lists a variable, with what it lists TIED to the program's text (the seventh form; the later family's looks); each row that meets fmt, with fmt's text TOLD by the authors' own Lean function (tested against real Go, not proved from fmt's source: count such statements apart). THE CARD IS WHAT COUNTS. Prove the row's statement (the work); the ties are given (YtceinefoljcgkaaDoorTie.lean); close each card by the builder's one call (the guide's Derived/Test/ToyasCard.lean, 'card_holds'). Laid BY PROGRAM, IN A SANDBOX (cutbox-door.mjs). By AI agents, Wed Nov 11 2026. No macro, syntax, notation, axiom, sorry.
-/
import Derived.Test.YtceinefoljcgkaaDoorRows
import GoSem.ClaimSeven
namespace Go.Proofs.YtceinefoljcgkaaDoor
namespace Rows

/-- THE TIED CARD OF 'laws.FnExactBlockedIn'. -/
def fnExactBlockedInCard : Claim7 := { stood := { row := fnExactBlockedInRow, standIns := [], harness := (true, "c4271471b45dc37aad2a4bb900d931cd7452b3d0fc27f9887ecdfe74a437699e"), looks := true }, kinds := [], alts := [], laidByText := true, laidKinds := [.sentinel, .sentinel, .sentinel, .sentinel, .sentinel, .sentinel, .sentinel], laidTests := true, laidLooks := .later }
def FnExactBlockedInCardSaid : Prop := Claim7.holds Tryd.pinned (.plain (OpenSpec.ofChange fnExactBlockedInSpec)) fnExactBlockedInCard

/-- THE TIED CARD OF 'laws.FnExactOldestOf'. -/
def fnExactOldestOfCard : Claim7 := { stood := { row := fnExactOldestOfRow, standIns := [], harness := (true, "c4271471b45dc37aad2a4bb900d931cd7452b3d0fc27f9887ecdfe74a437699e"), looks := true }, kinds := [], alts := [], laidByText := true, laidKinds := [.sentinel, .sentinel, .sentinel, .sentinel, .sentinel, .sentinel, .sentinel], laidTests := true, laidLooks := .later }
def FnExactOldestOfCardSaid : Prop := Claim7.holds Tryd.pinned (.plain (OpenSpec.ofChange fnExactOldestOfSpec)) fnExactOldestOfCard

/-- THE TIED CARD OF 'laws.FnExactChoiceOf'. -/
def fnExactChoiceOfCard : Claim7 := { stood := { row := fnExactChoiceOfRow, standIns := [], harness := (true, "c4271471b45dc37aad2a4bb900d931cd7452b3d0fc27f9887ecdfe74a437699e"), looks := true }, kinds := [], alts := [], laidByText := true, laidKinds := [.sentinel, .sentinel, .sentinel, .sentinel, .sentinel, .sentinel, .sentinel], laidTests := true, laidLooks := .later }
def FnExactChoiceOfCardSaid : Prop := Claim7.holds Tryd.pinned (.plain (OpenSpec.ofChange fnExactChoiceOfSpec)) fnExactChoiceOfCard

/-- THE TIED CARD OF 'laws.FnExactBestLane'. -/
def fnExactBestLaneCard : Claim7 := { stood := { row := fnExactBestLaneRow, standIns := [], harness := (true, "c4271471b45dc37aad2a4bb900d931cd7452b3d0fc27f9887ecdfe74a437699e"), looks := true }, kinds := [], alts := [], laidByText := true, laidKinds := [.sentinel, .sentinel, .sentinel, .sentinel, .sentinel, .sentinel, .sentinel], laidTests := true, laidLooks := .later }
def FnExactBestLaneCardSaid : Prop := Claim7.holds Tryd.pinned (.plain (OpenSpec.ofChange fnExactBestLaneSpec)) fnExactBestLaneCard

/-- THE TIED CARD OF 'laws.FnExactStoreAt'. -/
def fnExactStoreAtCard : Claim7 := { stood := { row := fnExactStoreAtRow, standIns := [], harness := (true, "c4271471b45dc37aad2a4bb900d931cd7452b3d0fc27f9887ecdfe74a437699e"), looks := true }, kinds := [], alts := [], laidByText := true, laidKinds := [.sentinel, .sentinel, .sentinel, .sentinel, .sentinel, .sentinel, .sentinel], laidTests := true, laidLooks := .later }
def FnExactStoreAtCardSaid : Prop := Claim7.holds Tryd.pinned (.plain (OpenSpec.ofChange fnExactStoreAtSpec)) fnExactStoreAtCard

/-- THE TIED CARD OF 'laws.FnExactTakeFront'. -/
def fnExactTakeFrontCard : Claim7 := { stood := { row := fnExactTakeFrontRow, standIns := [], harness := (true, "c4271471b45dc37aad2a4bb900d931cd7452b3d0fc27f9887ecdfe74a437699e"), looks := true }, kinds := [], alts := [], laidByText := true, laidKinds := [.sentinel, .sentinel, .sentinel, .sentinel, .sentinel, .sentinel, .sentinel], laidTests := true, laidLooks := .later }
def FnExactTakeFrontCardSaid : Prop := Claim7.holds Tryd.pinned (.plain (OpenSpec.ofChange fnExactTakeFrontSpec)) fnExactTakeFrontCard

/-- THE SECOND FORM's CARD OF 'laws.FnExactBlockedIn'. -/
def fnExactBlockedInUptoCard : Claim7 := { stood := { row := fnExactBlockedInUptoRow, standIns := [], harness := (true, "c4271471b45dc37aad2a4bb900d931cd7452b3d0fc27f9887ecdfe74a437699e"), looks := true }, kinds := [], alts := [], laidByText := true, laidKinds := [.sentinel, .sentinel, .sentinel, .sentinel, .sentinel, .sentinel, .sentinel], laidTests := true, laidLooks := .later }
def FnExactBlockedInUptoCardSaid : Prop := Claim7.holds Tryd.pinned (.plain (OpenSpec.upto fnExactBlockedInSpec)) fnExactBlockedInUptoCard

/-- THE SECOND FORM's CARD OF 'laws.FnExactOldestOf'. -/
def fnExactOldestOfUptoCard : Claim7 := { stood := { row := fnExactOldestOfUptoRow, standIns := [], harness := (true, "c4271471b45dc37aad2a4bb900d931cd7452b3d0fc27f9887ecdfe74a437699e"), looks := true }, kinds := [], alts := [], laidByText := true, laidKinds := [.sentinel, .sentinel, .sentinel, .sentinel, .sentinel, .sentinel, .sentinel], laidTests := true, laidLooks := .later }
def FnExactOldestOfUptoCardSaid : Prop := Claim7.holds Tryd.pinned (.plain (OpenSpec.upto fnExactOldestOfSpec)) fnExactOldestOfUptoCard

/-- THE SECOND FORM's CARD OF 'laws.FnExactChoiceOf'. -/
def fnExactChoiceOfUptoCard : Claim7 := { stood := { row := fnExactChoiceOfUptoRow, standIns := [], harness := (true, "c4271471b45dc37aad2a4bb900d931cd7452b3d0fc27f9887ecdfe74a437699e"), looks := true }, kinds := [], alts := [], laidByText := true, laidKinds := [.sentinel, .sentinel, .sentinel, .sentinel, .sentinel, .sentinel, .sentinel], laidTests := true, laidLooks := .later }
def FnExactChoiceOfUptoCardSaid : Prop := Claim7.holds Tryd.pinned (.plain (OpenSpec.upto fnExactChoiceOfSpec)) fnExactChoiceOfUptoCard

/-- THE SECOND FORM's CARD OF 'laws.FnExactBestLane'. -/
def fnExactBestLaneUptoCard : Claim7 := { stood := { row := fnExactBestLaneUptoRow, standIns := [], harness := (true, "c4271471b45dc37aad2a4bb900d931cd7452b3d0fc27f9887ecdfe74a437699e"), looks := true }, kinds := [], alts := [], laidByText := true, laidKinds := [.sentinel, .sentinel, .sentinel, .sentinel, .sentinel, .sentinel, .sentinel], laidTests := true, laidLooks := .later }
def FnExactBestLaneUptoCardSaid : Prop := Claim7.holds Tryd.pinned (.plain (OpenSpec.upto fnExactBestLaneSpec)) fnExactBestLaneUptoCard

/-- THE SECOND FORM's CARD OF 'laws.FnExactStoreAt'. -/
def fnExactStoreAtUptoCard : Claim7 := { stood := { row := fnExactStoreAtUptoRow, standIns := [], harness := (true, "c4271471b45dc37aad2a4bb900d931cd7452b3d0fc27f9887ecdfe74a437699e"), looks := true }, kinds := [], alts := [], laidByText := true, laidKinds := [.sentinel, .sentinel, .sentinel, .sentinel, .sentinel, .sentinel, .sentinel], laidTests := true, laidLooks := .later }
def FnExactStoreAtUptoCardSaid : Prop := Claim7.holds Tryd.pinned (.plain (OpenSpec.upto fnExactStoreAtSpec)) fnExactStoreAtUptoCard

/-- THE SECOND FORM's CARD OF 'laws.FnExactTakeFront'. -/
def fnExactTakeFrontUptoCard : Claim7 := { stood := { row := fnExactTakeFrontUptoRow, standIns := [], harness := (true, "c4271471b45dc37aad2a4bb900d931cd7452b3d0fc27f9887ecdfe74a437699e"), looks := true }, kinds := [], alts := [], laidByText := true, laidKinds := [.sentinel, .sentinel, .sentinel, .sentinel, .sentinel, .sentinel, .sentinel], laidTests := true, laidLooks := .later }
def FnExactTakeFrontUptoCardSaid : Prop := Claim7.holds Tryd.pinned (.plain (OpenSpec.upto fnExactTakeFrontSpec)) fnExactTakeFrontUptoCard
end Rows
end Go.Proofs.YtceinefoljcgkaaDoor
