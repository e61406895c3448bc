/-
  DERIVED. GIVEN WITH THE SEED: THE CARDS: each row of YtfmfgpipklmecabDoorRows.lean that lists a variable, with what it lists TIED to the program's text (the seventh form; the later family's looks); each row that meets fmt, with fmt's text TOLD by the authors' own Lean function (tested against real Go, not proved from fmt's source: count such statements apart). THE CARD IS WHAT COUNTS. Prove the row's statement (the work); the ties are given (YtfmfgpipklmecabDoorTie.lean); close each card by the builder's one call (the guide's Derived/Test/ToyasCard.lean, 'card_holds'). Laid BY PROGRAM, IN A SANDBOX (cutbox-door.mjs). By AI agents, Wed Nov 11 2026. No macro, syntax, notation, axiom, sorry.
-/
import Derived.Test.YtfmfgpipklmecabDoorRows
import GoSem.ClaimSeven
namespace Go.Proofs.YtfmfgpipklmecabDoor
namespace Rows

/-- THE TIED CARD OF 'laws.FnExactBestOrder'. -/
def fnExactBestOrderCard : Claim7 := { stood := { row := fnExactBestOrderRow, standIns := [], harness := (true, "4c440c1ec5785c0993ef3024584514834e6581186616a01c7c86f6c31b0f9491"), looks := true }, kinds := [], alts := [], laidByText := true, laidKinds := [.sentinel, .sentinel, .sentinel, .sentinel, .sentinel, .sentinel, .sentinel], laidTests := true, laidLooks := .later }
def FnExactBestOrderCardSaid : Prop := Claim7.holds Tryd.pinned (.plain (OpenSpec.ofChange fnExactBestOrderSpec)) fnExactBestOrderCard

/-- THE TIED CARD OF 'laws.FnExactStrangeTaster'. -/
def fnExactStrangeTasterCard : Claim7 := { stood := { row := fnExactStrangeTasterRow, standIns := [], harness := (true, "4c440c1ec5785c0993ef3024584514834e6581186616a01c7c86f6c31b0f9491"), looks := true }, kinds := [], alts := [], laidByText := true, laidKinds := [.sentinel, .sentinel, .sentinel, .sentinel, .sentinel, .sentinel, .sentinel], laidTests := true, laidLooks := .later }
def FnExactStrangeTasterCardSaid : Prop := Claim7.holds Tryd.pinned (.plain (OpenSpec.ofChange fnExactStrangeTasterSpec)) fnExactStrangeTasterCard

/-- THE TIED CARD OF 'laws.FnExactRevealOrder'. -/
def fnExactRevealOrderCard : Claim7 := { stood := { row := fnExactRevealOrderRow, standIns := [], harness := (true, "4c440c1ec5785c0993ef3024584514834e6581186616a01c7c86f6c31b0f9491"), looks := true }, kinds := [], alts := [], laidByText := true, laidKinds := [.sentinel, .sentinel, .sentinel, .sentinel, .sentinel, .sentinel, .sentinel], laidTests := true, laidLooks := .later }
def FnExactRevealOrderCardSaid : Prop := Claim7.holds Tryd.pinned (.plain (OpenSpec.ofChange fnExactRevealOrderSpec)) fnExactRevealOrderCard

/-- THE TIED CARD OF 'laws.FnExactMarksText'. -/
def fnExactMarksTextCard : Claim7 := { stood := { row := fnExactMarksTextRow, standIns := [], harness := (true, "4c440c1ec5785c0993ef3024584514834e6581186616a01c7c86f6c31b0f9491"), looks := true }, kinds := [], alts := [], laidByText := true, laidKinds := [.data, .data, .data, .sentinel, .sentinel], laidTests := true, laidLooks := .later }
def FnExactMarksTextCardSaid : Prop := Claim7.holds Tryd.pinned (.plain (OpenSpec.ofChange fnExactMarksTextSpec)) fnExactMarksTextCard

/-- THE SECOND FORM's CARD OF 'laws.FnExactBestOrder'. -/
def fnExactBestOrderUptoCard : Claim7 := { stood := { row := fnExactBestOrderUptoRow, standIns := [], harness := (true, "4c440c1ec5785c0993ef3024584514834e6581186616a01c7c86f6c31b0f9491"), looks := true }, kinds := [], alts := [], laidByText := true, laidKinds := [.sentinel, .sentinel, .sentinel, .sentinel, .sentinel, .sentinel, .sentinel], laidTests := true, laidLooks := .later }
def FnExactBestOrderUptoCardSaid : Prop := Claim7.holds Tryd.pinned (.plain (OpenSpec.upto fnExactBestOrderSpec)) fnExactBestOrderUptoCard

/-- THE SECOND FORM's CARD OF 'laws.FnExactStrangeTaster'. -/
def fnExactStrangeTasterUptoCard : Claim7 := { stood := { row := fnExactStrangeTasterUptoRow, standIns := [], harness := (true, "4c440c1ec5785c0993ef3024584514834e6581186616a01c7c86f6c31b0f9491"), looks := true }, kinds := [], alts := [], laidByText := true, laidKinds := [.sentinel, .sentinel, .sentinel, .sentinel, .sentinel, .sentinel, .sentinel], laidTests := true, laidLooks := .later }
def FnExactStrangeTasterUptoCardSaid : Prop := Claim7.holds Tryd.pinned (.plain (OpenSpec.upto fnExactStrangeTasterSpec)) fnExactStrangeTasterUptoCard

/-- THE SECOND FORM's CARD OF 'laws.FnExactRevealOrder'. -/
def fnExactRevealOrderUptoCard : Claim7 := { stood := { row := fnExactRevealOrderUptoRow, standIns := [], harness := (true, "4c440c1ec5785c0993ef3024584514834e6581186616a01c7c86f6c31b0f9491"), looks := true }, kinds := [], alts := [], laidByText := true, laidKinds := [.sentinel, .sentinel, .sentinel, .sentinel, .sentinel, .sentinel, .sentinel], laidTests := true, laidLooks := .later }
def FnExactRevealOrderUptoCardSaid : Prop := Claim7.holds Tryd.pinned (.plain (OpenSpec.upto fnExactRevealOrderSpec)) fnExactRevealOrderUptoCard

/-- THE SECOND FORM's CARD OF 'laws.FnExactMarksText'. -/
def fnExactMarksTextUptoCard : Claim7 := { stood := { row := fnExactMarksTextUptoRow, standIns := [], harness := (true, "4c440c1ec5785c0993ef3024584514834e6581186616a01c7c86f6c31b0f9491"), looks := true }, kinds := [], alts := [], laidByText := true, laidKinds := [.data, .data, .data, .sentinel, .sentinel], laidTests := true, laidLooks := .later }
def FnExactMarksTextUptoCardSaid : Prop := Claim7.holds Tryd.pinned (.plain (OpenSpec.upto fnExactMarksTextSpec)) fnExactMarksTextUptoCard
end Rows
end Go.Proofs.YtfmfgpipklmecabDoor
