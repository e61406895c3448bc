/-
  DERIVED. GIVEN WITH THE SEED: THE CARDS: each row of YtjiihdljchaeiabDoorRows.lean that lists a variable, with what it lists TIED to the program's text (the seventh form; the later family's looks); each row that meets fmt, with fmt's text TOLD by the authors' own Lean function (tested against real Go, not proved from fmt's source: count such statements apart). THE CARD IS WHAT COUNTS. Prove the row's statement (the work); the ties are given (YtjiihdljchaeiabDoorTie.lean); close each card by the builder's one call (the guide's Derived/Test/ToyasCard.lean, 'card_holds'). Laid BY PROGRAM, IN A SANDBOX (cutbox-door.mjs). By AI agents, Wed Nov 11 2026. No macro, syntax, notation, axiom, sorry.
-/
import Derived.Test.YtjiihdljchaeiabDoorRows
import GoSem.ClaimSeven
namespace Go.Proofs.YtjiihdljchaeiabDoor
namespace Rows

/-- THE TIED CARD OF 'laws.FnExactVisitsOf'. -/
def fnExactVisitsOfCard : Claim7 := { stood := { row := fnExactVisitsOfRow, standIns := [], harness := (true, "4b49356f442127d36204086149b43815c0cfeac6fe680f8cf439f2834c421a2b"), looks := true }, kinds := [], alts := [], laidByText := true, laidKinds := [.sentinel, .sentinel, .sentinel, .sentinel, .sentinel, .sentinel, .sentinel], laidTests := true, laidLooks := .later }
def FnExactVisitsOfCardSaid : Prop := Claim7.holds Tryd.pinned (.plain (OpenSpec.ofChange fnExactVisitsOfSpec)) fnExactVisitsOfCard

/-- THE TIED CARD OF 'laws.FnExactWalksOn'. -/
def fnExactWalksOnCard : Claim7 := { stood := { row := fnExactWalksOnRow, standIns := [], harness := (true, "4b49356f442127d36204086149b43815c0cfeac6fe680f8cf439f2834c421a2b"), looks := true }, kinds := [], alts := [], laidByText := true, laidKinds := [.sentinel, .sentinel, .sentinel, .sentinel, .sentinel, .sentinel, .sentinel], laidTests := true, laidLooks := .later }
def FnExactWalksOnCardSaid : Prop := Claim7.holds Tryd.pinned (.plain (OpenSpec.ofChange fnExactWalksOnSpec)) fnExactWalksOnCard

/-- THE TIED CARD OF 'laws.FnExactWalksUntil'. -/
def fnExactWalksUntilCard : Claim7 := { stood := { row := fnExactWalksUntilRow, standIns := [], harness := (true, "4b49356f442127d36204086149b43815c0cfeac6fe680f8cf439f2834c421a2b"), looks := true }, kinds := [], alts := [], laidByText := true, laidKinds := [.sentinel, .sentinel, .sentinel, .sentinel, .sentinel, .sentinel, .sentinel], laidTests := true, laidLooks := .later }
def FnExactWalksUntilCardSaid : Prop := Claim7.holds Tryd.pinned (.plain (OpenSpec.ofChange fnExactWalksUntilSpec)) fnExactWalksUntilCard

/-- THE TIED CARD OF 'laws.FnExactAllWalkEvery'. -/
def fnExactAllWalkEveryCard : Claim7 := { stood := { row := fnExactAllWalkEveryRow, standIns := [], harness := (true, "4b49356f442127d36204086149b43815c0cfeac6fe680f8cf439f2834c421a2b"), looks := true }, kinds := [], alts := [], laidByText := true, laidKinds := [.sentinel, .sentinel, .sentinel, .sentinel, .sentinel, .sentinel, .sentinel], laidTests := true, laidLooks := .later }
def FnExactAllWalkEveryCardSaid : Prop := Claim7.holds Tryd.pinned (.plain (OpenSpec.ofChange fnExactAllWalkEverySpec)) fnExactAllWalkEveryCard

/-- THE SECOND FORM's CARD OF 'laws.FnExactVisitsOf'. -/
def fnExactVisitsOfUptoCard : Claim7 := { stood := { row := fnExactVisitsOfUptoRow, standIns := [], harness := (true, "4b49356f442127d36204086149b43815c0cfeac6fe680f8cf439f2834c421a2b"), looks := true }, kinds := [], alts := [], laidByText := true, laidKinds := [.sentinel, .sentinel, .sentinel, .sentinel, .sentinel, .sentinel, .sentinel], laidTests := true, laidLooks := .later }
def FnExactVisitsOfUptoCardSaid : Prop := Claim7.holds Tryd.pinned (.plain (OpenSpec.upto fnExactVisitsOfSpec)) fnExactVisitsOfUptoCard

/-- THE SECOND FORM's CARD OF 'laws.FnExactWalksOn'. -/
def fnExactWalksOnUptoCard : Claim7 := { stood := { row := fnExactWalksOnUptoRow, standIns := [], harness := (true, "4b49356f442127d36204086149b43815c0cfeac6fe680f8cf439f2834c421a2b"), looks := true }, kinds := [], alts := [], laidByText := true, laidKinds := [.sentinel, .sentinel, .sentinel, .sentinel, .sentinel, .sentinel, .sentinel], laidTests := true, laidLooks := .later }
def FnExactWalksOnUptoCardSaid : Prop := Claim7.holds Tryd.pinned (.plain (OpenSpec.upto fnExactWalksOnSpec)) fnExactWalksOnUptoCard

/-- THE SECOND FORM's CARD OF 'laws.FnExactWalksUntil'. -/
def fnExactWalksUntilUptoCard : Claim7 := { stood := { row := fnExactWalksUntilUptoRow, standIns := [], harness := (true, "4b49356f442127d36204086149b43815c0cfeac6fe680f8cf439f2834c421a2b"), looks := true }, kinds := [], alts := [], laidByText := true, laidKinds := [.sentinel, .sentinel, .sentinel, .sentinel, .sentinel, .sentinel, .sentinel], laidTests := true, laidLooks := .later }
def FnExactWalksUntilUptoCardSaid : Prop := Claim7.holds Tryd.pinned (.plain (OpenSpec.upto fnExactWalksUntilSpec)) fnExactWalksUntilUptoCard

/-- THE SECOND FORM's CARD OF 'laws.FnExactAllWalkEvery'. -/
def fnExactAllWalkEveryUptoCard : Claim7 := { stood := { row := fnExactAllWalkEveryUptoRow, standIns := [], harness := (true, "4b49356f442127d36204086149b43815c0cfeac6fe680f8cf439f2834c421a2b"), looks := true }, kinds := [], alts := [], laidByText := true, laidKinds := [.sentinel, .sentinel, .sentinel, .sentinel, .sentinel, .sentinel, .sentinel], laidTests := true, laidLooks := .later }
def FnExactAllWalkEveryUptoCardSaid : Prop := Claim7.holds Tryd.pinned (.plain (OpenSpec.upto fnExactAllWalkEverySpec)) fnExactAllWalkEveryUptoCard
end Rows
end Go.Proofs.YtjiihdljchaeiabDoor
