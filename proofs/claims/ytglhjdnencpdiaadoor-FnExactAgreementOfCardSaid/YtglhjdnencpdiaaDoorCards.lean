/-
  DERIVED. GIVEN WITH THE SEED: THE CARDS: each row of YtglhjdnencpdiaaDoorRows.lean that lists a variable, with what it lists TIED to the program's text (the seventh form; the later family's looks); each row that meets fmt, with fmt's text TOLD by the authors' own Lean function (tested against real Go, not proved from fmt's source: count such statements apart). THE CARD IS WHAT COUNTS. Prove the row's statement (the work); the ties are given (YtglhjdnencpdiaaDoorTie.lean); close each card by the builder's one call (the guide's Derived/Test/ToyasCard.lean, 'card_holds'). Laid BY PROGRAM, IN A SANDBOX (cutbox-door.mjs). By AI agents, Wed Nov 11 2026. No macro, syntax, notation, axiom, sorry.
-/
import Derived.Test.YtglhjdnencpdiaaDoorRows
import GoSem.ClaimSeven
namespace Go.Proofs.YtglhjdnencpdiaaDoor
namespace Rows

/-- THE TIED CARD OF 'laws.FnExactPairsFor'. -/
def fnExactPairsForCard : Claim7 := { stood := { row := fnExactPairsForRow, standIns := [], harness := (true, "fecc6f1db1843877fb7e69534255bb22820d7418896dee5ebf9d7941b0f2ac98"), looks := true }, kinds := [], alts := [], laidByText := true, laidKinds := [.sentinel, .sentinel, .sentinel, .sentinel, .sentinel, .sentinel, .sentinel], laidTests := true, laidLooks := .later }
def FnExactPairsForCardSaid : Prop := Claim7.holds Tryd.pinned (.plain (OpenSpec.ofChange fnExactPairsForSpec)) fnExactPairsForCard

/-- THE TIED CARD OF 'laws.FnExactAgreementBound'. -/
def fnExactAgreementBoundCard : Claim7 := { stood := { row := fnExactAgreementBoundRow, standIns := [], harness := (true, "fecc6f1db1843877fb7e69534255bb22820d7418896dee5ebf9d7941b0f2ac98"), looks := true }, kinds := [], alts := [], laidByText := true, laidKinds := [.sentinel, .sentinel, .sentinel, .sentinel, .sentinel, .sentinel, .sentinel], laidTests := true, laidLooks := .later }
def FnExactAgreementBoundCardSaid : Prop := Claim7.holds Tryd.pinned (.plain (OpenSpec.ofChange fnExactAgreementBoundSpec)) fnExactAgreementBoundCard

/-- THE TIED CARD OF 'laws.FnExactWinnerOf'. -/
def fnExactWinnerOfCard : Claim7 := { stood := { row := fnExactWinnerOfRow, standIns := [], harness := (true, "fecc6f1db1843877fb7e69534255bb22820d7418896dee5ebf9d7941b0f2ac98"), looks := true }, kinds := [], alts := [], laidByText := true, laidKinds := [.sentinel, .sentinel, .sentinel, .sentinel, .sentinel, .sentinel, .sentinel], laidTests := true, laidLooks := .later }
def FnExactWinnerOfCardSaid : Prop := Claim7.holds Tryd.pinned (.plain (OpenSpec.ofChange fnExactWinnerOfSpec)) fnExactWinnerOfCard

/-- THE TIED CARD OF 'laws.FnExactAgreementOf'. -/
def fnExactAgreementOfCard : Claim7 := { stood := { row := fnExactAgreementOfRow, standIns := [], harness := (true, "fecc6f1db1843877fb7e69534255bb22820d7418896dee5ebf9d7941b0f2ac98"), looks := true }, kinds := [], alts := [], laidByText := true, laidKinds := [.sentinel, .sentinel, .sentinel, .sentinel, .sentinel, .sentinel, .sentinel], laidTests := true, laidLooks := .later }
def FnExactAgreementOfCardSaid : Prop := Claim7.holds Tryd.pinned (.plain (OpenSpec.ofChange fnExactAgreementOfSpec)) fnExactAgreementOfCard

/-- THE SECOND FORM's CARD OF 'laws.FnExactPairsFor'. -/
def fnExactPairsForUptoCard : Claim7 := { stood := { row := fnExactPairsForUptoRow, standIns := [], harness := (true, "fecc6f1db1843877fb7e69534255bb22820d7418896dee5ebf9d7941b0f2ac98"), looks := true }, kinds := [], alts := [], laidByText := true, laidKinds := [.sentinel, .sentinel, .sentinel, .sentinel, .sentinel, .sentinel, .sentinel], laidTests := true, laidLooks := .later }
def FnExactPairsForUptoCardSaid : Prop := Claim7.holds Tryd.pinned (.plain (OpenSpec.upto fnExactPairsForSpec)) fnExactPairsForUptoCard

/-- THE SECOND FORM's CARD OF 'laws.FnExactAgreementBound'. -/
def fnExactAgreementBoundUptoCard : Claim7 := { stood := { row := fnExactAgreementBoundUptoRow, standIns := [], harness := (true, "fecc6f1db1843877fb7e69534255bb22820d7418896dee5ebf9d7941b0f2ac98"), looks := true }, kinds := [], alts := [], laidByText := true, laidKinds := [.sentinel, .sentinel, .sentinel, .sentinel, .sentinel, .sentinel, .sentinel], laidTests := true, laidLooks := .later }
def FnExactAgreementBoundUptoCardSaid : Prop := Claim7.holds Tryd.pinned (.plain (OpenSpec.upto fnExactAgreementBoundSpec)) fnExactAgreementBoundUptoCard

/-- THE SECOND FORM's CARD OF 'laws.FnExactWinnerOf'. -/
def fnExactWinnerOfUptoCard : Claim7 := { stood := { row := fnExactWinnerOfUptoRow, standIns := [], harness := (true, "fecc6f1db1843877fb7e69534255bb22820d7418896dee5ebf9d7941b0f2ac98"), looks := true }, kinds := [], alts := [], laidByText := true, laidKinds := [.sentinel, .sentinel, .sentinel, .sentinel, .sentinel, .sentinel, .sentinel], laidTests := true, laidLooks := .later }
def FnExactWinnerOfUptoCardSaid : Prop := Claim7.holds Tryd.pinned (.plain (OpenSpec.upto fnExactWinnerOfSpec)) fnExactWinnerOfUptoCard

/-- THE SECOND FORM's CARD OF 'laws.FnExactAgreementOf'. -/
def fnExactAgreementOfUptoCard : Claim7 := { stood := { row := fnExactAgreementOfUptoRow, standIns := [], harness := (true, "fecc6f1db1843877fb7e69534255bb22820d7418896dee5ebf9d7941b0f2ac98"), looks := true }, kinds := [], alts := [], laidByText := true, laidKinds := [.sentinel, .sentinel, .sentinel, .sentinel, .sentinel, .sentinel, .sentinel], laidTests := true, laidLooks := .later }
def FnExactAgreementOfUptoCardSaid : Prop := Claim7.holds Tryd.pinned (.plain (OpenSpec.upto fnExactAgreementOfSpec)) fnExactAgreementOfUptoCard
end Rows
end Go.Proofs.YtglhjdnencpdiaaDoor
