/-
  DERIVED. GIVEN WITH THE SEED: THE CARDS: each row of YtabajhblgnlhgaaDoorRows.lean that lists a variable, with what it lists TIED to the program's text (the seventh form; the later family's looks); each row that meets fmt, with fmt's text TOLD by the authors' own Lean function (tested against real Go, not proved from fmt's source: count such statements apart). THE CARD IS WHAT COUNTS. Prove the row's statement (the work); the ties are given (YtabajhblgnlhgaaDoorTie.lean); close each card by the builder's one call (the guide's Derived/Test/ToyasCard.lean, 'card_holds'). Laid BY PROGRAM, IN A SANDBOX (cutbox-door.mjs). By AI agents, Wed Nov 11 2026. No macro, syntax, notation, axiom, sorry.
-/
import Derived.Test.YtabajhblgnlhgaaDoorRows
import GoSem.ClaimSeven
namespace Go.Proofs.YtabajhblgnlhgaaDoor
namespace Rows

/-- THE TIED CARD OF 'laws.FnExactAgreementOf'. -/
def fnExactAgreementOfCard : Claim7 := { stood := { row := fnExactAgreementOfRow, standIns := [], harness := (true, "0312277c4732e1a98052b6587d81b2ffe1c2357ba93482909bce04ecc76a12ee"), looks := true }, kinds := [], alts := [], laidByText := true, laidKinds := [.sentinel, .sentinel, .sentinel, .sentinel, .sentinel, .sentinel, .sentinel], laidTests := true, laidLooks := .later }
def FnExactAgreementOfCardSaid : Prop := Claim7.holds Tryd.pinned (.plain (OpenSpec.ofChange fnExactAgreementOfSpec)) fnExactAgreementOfCard

/-- THE TIED CARD OF 'laws.FnExactDiscordOf'. -/
def fnExactDiscordOfCard : Claim7 := { stood := { row := fnExactDiscordOfRow, standIns := [], harness := (true, "0312277c4732e1a98052b6587d81b2ffe1c2357ba93482909bce04ecc76a12ee"), looks := true }, kinds := [], alts := [], laidByText := true, laidKinds := [.sentinel, .sentinel, .sentinel, .sentinel, .sentinel, .sentinel], laidTests := true, laidLooks := .later }
def FnExactDiscordOfCardSaid : Prop := Claim7.holds Tryd.pinned (.plain (OpenSpec.ofChange fnExactDiscordOfSpec)) fnExactDiscordOfCard

/-- THE TIED CARD OF 'laws.FnExactFollowsOf'. -/
def fnExactFollowsOfCard : Claim7 := { stood := { row := fnExactFollowsOfRow, standIns := [], harness := (true, "0312277c4732e1a98052b6587d81b2ffe1c2357ba93482909bce04ecc76a12ee"), looks := true }, kinds := [], alts := [], laidByText := true, laidKinds := [.sentinel, .sentinel, .sentinel, .sentinel, .sentinel, .sentinel], laidTests := true, laidLooks := .later }
def FnExactFollowsOfCardSaid : Prop := Claim7.holds Tryd.pinned (.plain (OpenSpec.ofChange fnExactFollowsOfSpec)) fnExactFollowsOfCard

/-- THE TIED CARD OF 'laws.FnExactIsBalanced'. -/
def fnExactIsBalancedCard : Claim7 := { stood := { row := fnExactIsBalancedRow, standIns := [], harness := (true, "0312277c4732e1a98052b6587d81b2ffe1c2357ba93482909bce04ecc76a12ee"), looks := true }, kinds := [], alts := [], laidByText := true, laidKinds := [.sentinel, .sentinel, .sentinel, .sentinel, .sentinel, .sentinel], laidTests := true, laidLooks := .later }
def FnExactIsBalancedCardSaid : Prop := Claim7.holds Tryd.pinned (.plain (OpenSpec.ofChange fnExactIsBalancedSpec)) fnExactIsBalancedCard

/-- THE SECOND FORM's CARD OF 'laws.FnExactAgreementOf'. -/
def fnExactAgreementOfUptoCard : Claim7 := { stood := { row := fnExactAgreementOfUptoRow, standIns := [], harness := (true, "0312277c4732e1a98052b6587d81b2ffe1c2357ba93482909bce04ecc76a12ee"), looks := true }, kinds := [], alts := [], laidByText := true, laidKinds := [.sentinel, .sentinel, .sentinel, .sentinel, .sentinel, .sentinel, .sentinel], laidTests := true, laidLooks := .later }
def FnExactAgreementOfUptoCardSaid : Prop := Claim7.holds Tryd.pinned (.plain (OpenSpec.upto fnExactAgreementOfSpec)) fnExactAgreementOfUptoCard

/-- THE SECOND FORM's CARD OF 'laws.FnExactDiscordOf'. -/
def fnExactDiscordOfUptoCard : Claim7 := { stood := { row := fnExactDiscordOfUptoRow, standIns := [], harness := (true, "0312277c4732e1a98052b6587d81b2ffe1c2357ba93482909bce04ecc76a12ee"), looks := true }, kinds := [], alts := [], laidByText := true, laidKinds := [.sentinel, .sentinel, .sentinel, .sentinel, .sentinel, .sentinel], laidTests := true, laidLooks := .later }
def FnExactDiscordOfUptoCardSaid : Prop := Claim7.holds Tryd.pinned (.plain (OpenSpec.upto fnExactDiscordOfSpec)) fnExactDiscordOfUptoCard

/-- THE SECOND FORM's CARD OF 'laws.FnExactFollowsOf'. -/
def fnExactFollowsOfUptoCard : Claim7 := { stood := { row := fnExactFollowsOfUptoRow, standIns := [], harness := (true, "0312277c4732e1a98052b6587d81b2ffe1c2357ba93482909bce04ecc76a12ee"), looks := true }, kinds := [], alts := [], laidByText := true, laidKinds := [.sentinel, .sentinel, .sentinel, .sentinel, .sentinel, .sentinel], laidTests := true, laidLooks := .later }
def FnExactFollowsOfUptoCardSaid : Prop := Claim7.holds Tryd.pinned (.plain (OpenSpec.upto fnExactFollowsOfSpec)) fnExactFollowsOfUptoCard

/-- THE SECOND FORM's CARD OF 'laws.FnExactIsBalanced'. -/
def fnExactIsBalancedUptoCard : Claim7 := { stood := { row := fnExactIsBalancedUptoRow, standIns := [], harness := (true, "0312277c4732e1a98052b6587d81b2ffe1c2357ba93482909bce04ecc76a12ee"), looks := true }, kinds := [], alts := [], laidByText := true, laidKinds := [.sentinel, .sentinel, .sentinel, .sentinel, .sentinel, .sentinel], laidTests := true, laidLooks := .later }
def FnExactIsBalancedUptoCardSaid : Prop := Claim7.holds Tryd.pinned (.plain (OpenSpec.upto fnExactIsBalancedSpec)) fnExactIsBalancedUptoCard
end Rows
end Go.Proofs.YtabajhblgnlhgaaDoor
