/-
  DERIVED. GIVEN WITH THE SEED: THE CARDS: each row of YtajnkkiabjiplabDoorRows.lean that lists a variable, with what it lists TIED to the program's text (the seventh form; the later family's looks); each row that meets fmt, with fmt's text TOLD by the authors' own Lean function (tested against real Go, not proved from fmt's source: count such statements apart). THE CARD IS WHAT COUNTS. Prove the row's statement (the work); the ties are given (YtajnkkiabjiplabDoorTie.lean); close each card by the builder's one call (the guide's Derived/Test/ToyasCard.lean, 'card_holds'). Laid BY PROGRAM, IN A SANDBOX (cutbox-door.mjs). By AI agents, Wed Nov 11 2026. No macro, syntax, notation, axiom, sorry.
-/
import Derived.Test.YtajnkkiabjiplabDoorRows
import GoSem.ClaimSeven
namespace Go.Proofs.YtajnkkiabjiplabDoor
namespace Rows

/-- THE TIED CARD OF 'laws.FnExactRankSums'. -/
def fnExactRankSumsCard : Claim7 := { stood := { row := fnExactRankSumsRow, standIns := [], harness := (true, "d382fd5f0b1f7fc8cfc73ea63648395c5848be81335d239d2a8e7b29efe139fd"), looks := true }, kinds := [], alts := [], laidByText := true, laidKinds := [.sentinel, .sentinel, .sentinel, .sentinel, .sentinel, .sentinel, .sentinel], laidTests := true, laidLooks := .later }
def FnExactRankSumsCardSaid : Prop := Claim7.holds Tryd.pinned (.plain (OpenSpec.ofChange fnExactRankSumsSpec)) fnExactRankSumsCard

/-- THE TIED CARD OF 'laws.FnExactRanksOf'. -/
def fnExactRanksOfCard : Claim7 := { stood := { row := fnExactRanksOfRow, standIns := [], harness := (true, "d382fd5f0b1f7fc8cfc73ea63648395c5848be81335d239d2a8e7b29efe139fd"), looks := true }, kinds := [], alts := [], laidByText := true, laidKinds := [.sentinel, .sentinel, .sentinel, .sentinel, .sentinel, .sentinel, .sentinel], laidTests := true, laidLooks := .later }
def FnExactRanksOfCardSaid : Prop := Claim7.holds Tryd.pinned (.plain (OpenSpec.ofChange fnExactRanksOfSpec)) fnExactRanksOfCard

/-- THE TIED CARD OF 'laws.FnExactSpreadOf'. -/
def fnExactSpreadOfCard : Claim7 := { stood := { row := fnExactSpreadOfRow, standIns := [], harness := (true, "d382fd5f0b1f7fc8cfc73ea63648395c5848be81335d239d2a8e7b29efe139fd"), looks := true }, kinds := [], alts := [], laidByText := true, laidKinds := [.sentinel, .sentinel, .sentinel, .sentinel, .sentinel, .sentinel, .sentinel], laidTests := true, laidLooks := .later }
def FnExactSpreadOfCardSaid : Prop := Claim7.holds Tryd.pinned (.plain (OpenSpec.ofChange fnExactSpreadOfSpec)) fnExactSpreadOfCard

/-- THE TIED CARD OF 'laws.FnExactIsOrder'. -/
def fnExactIsOrderCard : Claim7 := { stood := { row := fnExactIsOrderRow, standIns := [], harness := (true, "d382fd5f0b1f7fc8cfc73ea63648395c5848be81335d239d2a8e7b29efe139fd"), looks := true }, kinds := [], alts := [], laidByText := true, laidKinds := [.sentinel], laidTests := true, laidLooks := .later }
def FnExactIsOrderCardSaid : Prop := Claim7.holds Tryd.pinned (.plain (OpenSpec.ofChange fnExactIsOrderSpec)) fnExactIsOrderCard

/-- THE SECOND FORM's CARD OF 'laws.FnExactRankSums'. -/
def fnExactRankSumsUptoCard : Claim7 := { stood := { row := fnExactRankSumsUptoRow, standIns := [], harness := (true, "d382fd5f0b1f7fc8cfc73ea63648395c5848be81335d239d2a8e7b29efe139fd"), looks := true }, kinds := [], alts := [], laidByText := true, laidKinds := [.sentinel, .sentinel, .sentinel, .sentinel, .sentinel, .sentinel, .sentinel], laidTests := true, laidLooks := .later }
def FnExactRankSumsUptoCardSaid : Prop := Claim7.holds Tryd.pinned (.plain (OpenSpec.upto fnExactRankSumsSpec)) fnExactRankSumsUptoCard

/-- THE SECOND FORM's CARD OF 'laws.FnExactRanksOf'. -/
def fnExactRanksOfUptoCard : Claim7 := { stood := { row := fnExactRanksOfUptoRow, standIns := [], harness := (true, "d382fd5f0b1f7fc8cfc73ea63648395c5848be81335d239d2a8e7b29efe139fd"), looks := true }, kinds := [], alts := [], laidByText := true, laidKinds := [.sentinel, .sentinel, .sentinel, .sentinel, .sentinel, .sentinel, .sentinel], laidTests := true, laidLooks := .later }
def FnExactRanksOfUptoCardSaid : Prop := Claim7.holds Tryd.pinned (.plain (OpenSpec.upto fnExactRanksOfSpec)) fnExactRanksOfUptoCard

/-- THE SECOND FORM's CARD OF 'laws.FnExactSpreadOf'. -/
def fnExactSpreadOfUptoCard : Claim7 := { stood := { row := fnExactSpreadOfUptoRow, standIns := [], harness := (true, "d382fd5f0b1f7fc8cfc73ea63648395c5848be81335d239d2a8e7b29efe139fd"), looks := true }, kinds := [], alts := [], laidByText := true, laidKinds := [.sentinel, .sentinel, .sentinel, .sentinel, .sentinel, .sentinel, .sentinel], laidTests := true, laidLooks := .later }
def FnExactSpreadOfUptoCardSaid : Prop := Claim7.holds Tryd.pinned (.plain (OpenSpec.upto fnExactSpreadOfSpec)) fnExactSpreadOfUptoCard

/-- THE SECOND FORM's CARD OF 'laws.FnExactIsOrder'. -/
def fnExactIsOrderUptoCard : Claim7 := { stood := { row := fnExactIsOrderUptoRow, standIns := [], harness := (true, "d382fd5f0b1f7fc8cfc73ea63648395c5848be81335d239d2a8e7b29efe139fd"), looks := true }, kinds := [], alts := [], laidByText := true, laidKinds := [.sentinel], laidTests := true, laidLooks := .later }
def FnExactIsOrderUptoCardSaid : Prop := Claim7.holds Tryd.pinned (.plain (OpenSpec.upto fnExactIsOrderSpec)) fnExactIsOrderUptoCard
end Rows
end Go.Proofs.YtajnkkiabjiplabDoor
