/-
  DERIVED. GIVEN WITH THE SEED: THE CARDS: each row of YtpjmkcgofmfdaaaDoorRows.lean that lists a variable, with what it lists TIED to the program's text (the seventh form; the later family's looks); each row that meets fmt, with fmt's text TOLD by the authors' own Lean function (tested against real Go, not proved from fmt's source: count such statements apart). THE CARD IS WHAT COUNTS. Prove the row's statement (the work); the ties are given (YtpjmkcgofmfdaaaDoorTie.lean); close each card by the builder's one call (the guide's Derived/Test/ToyasCard.lean, 'card_holds'). Laid BY PROGRAM, IN A SANDBOX (cutbox-door.mjs). By AI agents, Wed Nov 11 2026. No macro, syntax, notation, axiom, sorry.
-/
import Derived.Test.YtpjmkcgofmfdaaaDoorRows
import GoSem.ClaimSeven
namespace Go.Proofs.YtpjmkcgofmfdaaaDoor
namespace Rows

/-- THE TIED CARD OF 'laws.FnExactShortIn'. -/
def fnExactShortInCard : Claim7 := { stood := { row := fnExactShortInRow, standIns := [], harness := (true, "3390451cdcf24c8a054da595b406ab65558aa165beec9aa4b4554d6d45134a8c"), looks := true }, kinds := [], alts := [], laidByText := true, laidKinds := [.sentinel, .sentinel, .sentinel, .sentinel, .sentinel, .sentinel, .sentinel], laidTests := true, laidLooks := .later }
def FnExactShortInCardSaid : Prop := Claim7.holds Tryd.pinned (.plain (OpenSpec.ofChange fnExactShortInSpec)) fnExactShortInCard

/-- THE TIED CARD OF 'laws.FnExactCanFill'. -/
def fnExactCanFillCard : Claim7 := { stood := { row := fnExactCanFillRow, standIns := [], harness := (true, "3390451cdcf24c8a054da595b406ab65558aa165beec9aa4b4554d6d45134a8c"), looks := true }, kinds := [], alts := [], laidByText := true, laidKinds := [.sentinel, .sentinel, .sentinel, .sentinel, .sentinel, .sentinel, .sentinel], laidTests := true, laidLooks := .later }
def FnExactCanFillCardSaid : Prop := Claim7.holds Tryd.pinned (.plain (OpenSpec.ofChange fnExactCanFillSpec)) fnExactCanFillCard

/-- THE TIED CARD OF 'laws.FnExactUsefulIn'. -/
def fnExactUsefulInCard : Claim7 := { stood := { row := fnExactUsefulInRow, standIns := [], harness := (true, "3390451cdcf24c8a054da595b406ab65558aa165beec9aa4b4554d6d45134a8c"), looks := true }, kinds := [], alts := [], laidByText := true, laidKinds := [.sentinel, .sentinel, .sentinel, .sentinel, .sentinel, .sentinel, .sentinel], laidTests := true, laidLooks := .later }
def FnExactUsefulInCardSaid : Prop := Claim7.holds Tryd.pinned (.plain (OpenSpec.ofChange fnExactUsefulInSpec)) fnExactUsefulInCard

/-- THE TIED CARD OF 'laws.FnExactLackBehind'. -/
def fnExactLackBehindCard : Claim7 := { stood := { row := fnExactLackBehindRow, standIns := [], harness := (true, "3390451cdcf24c8a054da595b406ab65558aa165beec9aa4b4554d6d45134a8c"), looks := true }, kinds := [], alts := [], laidByText := true, laidKinds := [.sentinel, .sentinel, .sentinel, .sentinel, .sentinel, .sentinel, .sentinel], laidTests := true, laidLooks := .later }
def FnExactLackBehindCardSaid : Prop := Claim7.holds Tryd.pinned (.plain (OpenSpec.ofChange fnExactLackBehindSpec)) fnExactLackBehindCard

/-- THE TIED CARD OF 'laws.FnExactCheckOpen'. -/
def fnExactCheckOpenCard : Claim7 := { stood := { row := fnExactCheckOpenRow, standIns := [], harness := (true, "3390451cdcf24c8a054da595b406ab65558aa165beec9aa4b4554d6d45134a8c"), looks := true }, kinds := [], alts := [], laidByText := true, laidKinds := [.sentinel, .sentinel, .sentinel, .sentinel, .sentinel, .sentinel, .sentinel], laidTests := true, laidLooks := .later }
def FnExactCheckOpenCardSaid : Prop := Claim7.holds Tryd.pinned (.plain (OpenSpec.ofChange fnExactCheckOpenSpec)) fnExactCheckOpenCard

/-- THE SECOND FORM's CARD OF 'laws.FnExactShortIn'. -/
def fnExactShortInUptoCard : Claim7 := { stood := { row := fnExactShortInUptoRow, standIns := [], harness := (true, "3390451cdcf24c8a054da595b406ab65558aa165beec9aa4b4554d6d45134a8c"), looks := true }, kinds := [], alts := [], laidByText := true, laidKinds := [.sentinel, .sentinel, .sentinel, .sentinel, .sentinel, .sentinel, .sentinel], laidTests := true, laidLooks := .later }
def FnExactShortInUptoCardSaid : Prop := Claim7.holds Tryd.pinned (.plain (OpenSpec.upto fnExactShortInSpec)) fnExactShortInUptoCard

/-- THE SECOND FORM's CARD OF 'laws.FnExactCanFill'. -/
def fnExactCanFillUptoCard : Claim7 := { stood := { row := fnExactCanFillUptoRow, standIns := [], harness := (true, "3390451cdcf24c8a054da595b406ab65558aa165beec9aa4b4554d6d45134a8c"), looks := true }, kinds := [], alts := [], laidByText := true, laidKinds := [.sentinel, .sentinel, .sentinel, .sentinel, .sentinel, .sentinel, .sentinel], laidTests := true, laidLooks := .later }
def FnExactCanFillUptoCardSaid : Prop := Claim7.holds Tryd.pinned (.plain (OpenSpec.upto fnExactCanFillSpec)) fnExactCanFillUptoCard

/-- THE SECOND FORM's CARD OF 'laws.FnExactUsefulIn'. -/
def fnExactUsefulInUptoCard : Claim7 := { stood := { row := fnExactUsefulInUptoRow, standIns := [], harness := (true, "3390451cdcf24c8a054da595b406ab65558aa165beec9aa4b4554d6d45134a8c"), looks := true }, kinds := [], alts := [], laidByText := true, laidKinds := [.sentinel, .sentinel, .sentinel, .sentinel, .sentinel, .sentinel, .sentinel], laidTests := true, laidLooks := .later }
def FnExactUsefulInUptoCardSaid : Prop := Claim7.holds Tryd.pinned (.plain (OpenSpec.upto fnExactUsefulInSpec)) fnExactUsefulInUptoCard

/-- THE SECOND FORM's CARD OF 'laws.FnExactLackBehind'. -/
def fnExactLackBehindUptoCard : Claim7 := { stood := { row := fnExactLackBehindUptoRow, standIns := [], harness := (true, "3390451cdcf24c8a054da595b406ab65558aa165beec9aa4b4554d6d45134a8c"), looks := true }, kinds := [], alts := [], laidByText := true, laidKinds := [.sentinel, .sentinel, .sentinel, .sentinel, .sentinel, .sentinel, .sentinel], laidTests := true, laidLooks := .later }
def FnExactLackBehindUptoCardSaid : Prop := Claim7.holds Tryd.pinned (.plain (OpenSpec.upto fnExactLackBehindSpec)) fnExactLackBehindUptoCard

/-- THE SECOND FORM's CARD OF 'laws.FnExactCheckOpen'. -/
def fnExactCheckOpenUptoCard : Claim7 := { stood := { row := fnExactCheckOpenUptoRow, standIns := [], harness := (true, "3390451cdcf24c8a054da595b406ab65558aa165beec9aa4b4554d6d45134a8c"), looks := true }, kinds := [], alts := [], laidByText := true, laidKinds := [.sentinel, .sentinel, .sentinel, .sentinel, .sentinel, .sentinel, .sentinel], laidTests := true, laidLooks := .later }
def FnExactCheckOpenUptoCardSaid : Prop := Claim7.holds Tryd.pinned (.plain (OpenSpec.upto fnExactCheckOpenSpec)) fnExactCheckOpenUptoCard
end Rows
end Go.Proofs.YtpjmkcgofmfdaaaDoor
