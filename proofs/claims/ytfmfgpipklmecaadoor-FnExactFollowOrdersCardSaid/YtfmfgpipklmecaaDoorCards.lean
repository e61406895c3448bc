/-
  DERIVED. GIVEN WITH THE SEED: THE CARDS: each row of YtfmfgpipklmecaaDoorRows.lean that lists a variable, with what it lists TIED to the program's text (the seventh form; the later family's looks); each row that meets fmt, with fmt's text TOLD by the authors' own Lean function (tested against real Go, not proved from fmt's source: count such statements apart). THE CARD IS WHAT COUNTS. Prove the row's statement (the work); the ties are given (YtfmfgpipklmecaaDoorTie.lean); close each card by the builder's one call (the guide's Derived/Test/ToyasCard.lean, 'card_holds'). Laid BY PROGRAM, IN A SANDBOX (cutbox-door.mjs). By AI agents, Wed Nov 11 2026. No macro, syntax, notation, axiom, sorry.
-/
import Derived.Test.YtfmfgpipklmecaaDoorRows
import GoSem.ClaimSeven
namespace Go.Proofs.YtfmfgpipklmecaaDoor
namespace Rows

/-- THE TIED CARD OF 'laws.FnExactAgreementOf'. -/
def fnExactAgreementOfCard : Claim7 := { stood := { row := fnExactAgreementOfRow, standIns := [], harness := (true, "743a90fede1882260e67e33db3a613b22032078bbe0694545374f0acdb659fd9"), looks := true }, kinds := [], alts := [], laidByText := true, laidKinds := [.sentinel, .sentinel, .sentinel, .sentinel, .sentinel, .sentinel, .sentinel], laidTests := true, laidLooks := .later }
def FnExactAgreementOfCardSaid : Prop := Claim7.holds Tryd.pinned (.plain (OpenSpec.ofChange fnExactAgreementOfSpec)) fnExactAgreementOfCard

/-- THE TIED CARD OF 'laws.FnExactIsBalanced'. -/
def fnExactIsBalancedCard : Claim7 := { stood := { row := fnExactIsBalancedRow, standIns := [], harness := (true, "743a90fede1882260e67e33db3a613b22032078bbe0694545374f0acdb659fd9"), looks := true }, kinds := [], alts := [], laidByText := true, laidKinds := [.sentinel, .sentinel, .sentinel, .sentinel, .sentinel, .sentinel], laidTests := true, laidLooks := .later }
def FnExactIsBalancedCardSaid : Prop := Claim7.holds Tryd.pinned (.plain (OpenSpec.ofChange fnExactIsBalancedSpec)) fnExactIsBalancedCard

/-- THE TIED CARD OF 'laws.FnExactSumOrder'. -/
def fnExactSumOrderCard : Claim7 := { stood := { row := fnExactSumOrderRow, standIns := [], harness := (true, "743a90fede1882260e67e33db3a613b22032078bbe0694545374f0acdb659fd9"), looks := true }, kinds := [], alts := [], laidByText := true, laidKinds := [.sentinel, .sentinel, .sentinel, .sentinel, .sentinel, .sentinel, .sentinel], laidTests := true, laidLooks := .later }
def FnExactSumOrderCardSaid : Prop := Claim7.holds Tryd.pinned (.plain (OpenSpec.ofChange fnExactSumOrderSpec)) fnExactSumOrderCard

/-- THE TIED CARD OF 'laws.FnExactFollowOrders'. -/
def fnExactFollowOrdersCard : Claim7 := { stood := { row := fnExactFollowOrdersRow, standIns := [], harness := (true, "743a90fede1882260e67e33db3a613b22032078bbe0694545374f0acdb659fd9"), looks := true }, kinds := [], alts := [], laidByText := true, laidKinds := [.sentinel, .sentinel, .sentinel, .sentinel, .sentinel, .sentinel], laidTests := true, laidLooks := .later }
def FnExactFollowOrdersCardSaid : Prop := Claim7.holds Tryd.pinned (.plain (OpenSpec.ofChange fnExactFollowOrdersSpec)) fnExactFollowOrdersCard

/-- THE SECOND FORM's CARD OF 'laws.FnExactAgreementOf'. -/
def fnExactAgreementOfUptoCard : Claim7 := { stood := { row := fnExactAgreementOfUptoRow, standIns := [], harness := (true, "743a90fede1882260e67e33db3a613b22032078bbe0694545374f0acdb659fd9"), looks := true }, kinds := [], alts := [], laidByText := true, laidKinds := [.sentinel, .sentinel, .sentinel, .sentinel, .sentinel, .sentinel, .sentinel], laidTests := true, laidLooks := .later }
def FnExactAgreementOfUptoCardSaid : Prop := Claim7.holds Tryd.pinned (.plain (OpenSpec.upto fnExactAgreementOfSpec)) fnExactAgreementOfUptoCard

/-- THE SECOND FORM's CARD OF 'laws.FnExactIsBalanced'. -/
def fnExactIsBalancedUptoCard : Claim7 := { stood := { row := fnExactIsBalancedUptoRow, standIns := [], harness := (true, "743a90fede1882260e67e33db3a613b22032078bbe0694545374f0acdb659fd9"), looks := true }, kinds := [], alts := [], laidByText := true, laidKinds := [.sentinel, .sentinel, .sentinel, .sentinel, .sentinel, .sentinel], laidTests := true, laidLooks := .later }
def FnExactIsBalancedUptoCardSaid : Prop := Claim7.holds Tryd.pinned (.plain (OpenSpec.upto fnExactIsBalancedSpec)) fnExactIsBalancedUptoCard

/-- THE SECOND FORM's CARD OF 'laws.FnExactSumOrder'. -/
def fnExactSumOrderUptoCard : Claim7 := { stood := { row := fnExactSumOrderUptoRow, standIns := [], harness := (true, "743a90fede1882260e67e33db3a613b22032078bbe0694545374f0acdb659fd9"), looks := true }, kinds := [], alts := [], laidByText := true, laidKinds := [.sentinel, .sentinel, .sentinel, .sentinel, .sentinel, .sentinel, .sentinel], laidTests := true, laidLooks := .later }
def FnExactSumOrderUptoCardSaid : Prop := Claim7.holds Tryd.pinned (.plain (OpenSpec.upto fnExactSumOrderSpec)) fnExactSumOrderUptoCard

/-- THE SECOND FORM's CARD OF 'laws.FnExactFollowOrders'. -/
def fnExactFollowOrdersUptoCard : Claim7 := { stood := { row := fnExactFollowOrdersUptoRow, standIns := [], harness := (true, "743a90fede1882260e67e33db3a613b22032078bbe0694545374f0acdb659fd9"), looks := true }, kinds := [], alts := [], laidByText := true, laidKinds := [.sentinel, .sentinel, .sentinel, .sentinel, .sentinel, .sentinel], laidTests := true, laidLooks := .later }
def FnExactFollowOrdersUptoCardSaid : Prop := Claim7.holds Tryd.pinned (.plain (OpenSpec.upto fnExactFollowOrdersSpec)) fnExactFollowOrdersUptoCard
end Rows
end Go.Proofs.YtfmfgpipklmecaaDoor
