/-
  DERIVED. GIVEN WITH THE SEED: THE CARDS: each row of YtjiihdljchaeiacDoorRows.lean that lists a variable, with what it lists TIED to the program's text (the seventh form; the later family's looks); each row that meets fmt, with fmt's text TOLD by the authors' own Lean function (tested against real Go, not proved from fmt's source: count such statements apart). THE CARD IS WHAT COUNTS. Prove the row's statement (the work); the ties are given (YtjiihdljchaeiacDoorTie.lean); close each card by the builder's one call (the guide's Derived/Test/ToyasCard.lean, 'card_holds'). Laid BY PROGRAM, IN A SANDBOX (cutbox-door.mjs). By AI agents, Wed Nov 11 2026. No macro, syntax, notation, axiom, sorry.
-/
import Derived.Test.YtjiihdljchaeiacDoorRows
import GoSem.ClaimSeven
namespace Go.Proofs.YtjiihdljchaeiacDoor
namespace Rows

/-- THE TIED CARD OF 'laws.FnExactNeverTurned'. -/
def fnExactNeverTurnedCard : Claim7 := { stood := { row := fnExactNeverTurnedRow, standIns := [], harness := (true, "5d90a05e81ebdec7ce50a30e60a30093309fa4da3015e27c2729b2b4470ed753"), looks := true }, kinds := [], alts := [], laidByText := true, laidKinds := [.sentinel, .sentinel, .sentinel, .sentinel, .sentinel, .sentinel, .sentinel], laidTests := true, laidLooks := .later }
def FnExactNeverTurnedCardSaid : Prop := Claim7.holds Tryd.pinned (.plain (OpenSpec.ofChange fnExactNeverTurnedSpec)) fnExactNeverTurnedCard

/-- THE TIED CARD OF 'laws.FnExactMeetingDay'. -/
def fnExactMeetingDayCard : Claim7 := { stood := { row := fnExactMeetingDayRow, standIns := [], harness := (true, "5d90a05e81ebdec7ce50a30e60a30093309fa4da3015e27c2729b2b4470ed753"), looks := true }, kinds := [], alts := [], laidByText := true, laidKinds := [.sentinel, .sentinel, .sentinel, .sentinel, .sentinel, .sentinel, .sentinel], laidTests := true, laidLooks := .later }
def FnExactMeetingDayCardSaid : Prop := Claim7.holds Tryd.pinned (.plain (OpenSpec.ofChange fnExactMeetingDaySpec)) fnExactMeetingDayCard

/-- THE TIED CARD OF 'laws.FnExactBusiestDay'. -/
def fnExactBusiestDayCard : Claim7 := { stood := { row := fnExactBusiestDayRow, standIns := [], harness := (true, "5d90a05e81ebdec7ce50a30e60a30093309fa4da3015e27c2729b2b4470ed753"), looks := true }, kinds := [], alts := [], laidByText := true, laidKinds := [.sentinel, .sentinel, .sentinel, .sentinel, .sentinel, .sentinel, .sentinel], laidTests := true, laidLooks := .later }
def FnExactBusiestDayCardSaid : Prop := Claim7.holds Tryd.pinned (.plain (OpenSpec.ofChange fnExactBusiestDaySpec)) fnExactBusiestDayCard

/-- THE TIED CARD OF 'laws.FnExactRowOn'. -/
def fnExactRowOnCard : Claim7 := { stood := { row := fnExactRowOnRow, standIns := [], harness := (true, "5d90a05e81ebdec7ce50a30e60a30093309fa4da3015e27c2729b2b4470ed753"), looks := true }, kinds := [], alts := [], laidByText := true, laidKinds := [.sentinel, .sentinel, .sentinel, .sentinel, .sentinel, .sentinel, .sentinel], laidTests := true, laidLooks := .later }
def FnExactRowOnCardSaid : Prop := Claim7.holds Tryd.pinned (.plain (OpenSpec.ofChange fnExactRowOnSpec)) fnExactRowOnCard

/-- THE SECOND FORM's CARD OF 'laws.FnExactNeverTurned'. -/
def fnExactNeverTurnedUptoCard : Claim7 := { stood := { row := fnExactNeverTurnedUptoRow, standIns := [], harness := (true, "5d90a05e81ebdec7ce50a30e60a30093309fa4da3015e27c2729b2b4470ed753"), looks := true }, kinds := [], alts := [], laidByText := true, laidKinds := [.sentinel, .sentinel, .sentinel, .sentinel, .sentinel, .sentinel, .sentinel], laidTests := true, laidLooks := .later }
def FnExactNeverTurnedUptoCardSaid : Prop := Claim7.holds Tryd.pinned (.plain (OpenSpec.upto fnExactNeverTurnedSpec)) fnExactNeverTurnedUptoCard

/-- THE SECOND FORM's CARD OF 'laws.FnExactMeetingDay'. -/
def fnExactMeetingDayUptoCard : Claim7 := { stood := { row := fnExactMeetingDayUptoRow, standIns := [], harness := (true, "5d90a05e81ebdec7ce50a30e60a30093309fa4da3015e27c2729b2b4470ed753"), looks := true }, kinds := [], alts := [], laidByText := true, laidKinds := [.sentinel, .sentinel, .sentinel, .sentinel, .sentinel, .sentinel, .sentinel], laidTests := true, laidLooks := .later }
def FnExactMeetingDayUptoCardSaid : Prop := Claim7.holds Tryd.pinned (.plain (OpenSpec.upto fnExactMeetingDaySpec)) fnExactMeetingDayUptoCard

/-- THE SECOND FORM's CARD OF 'laws.FnExactBusiestDay'. -/
def fnExactBusiestDayUptoCard : Claim7 := { stood := { row := fnExactBusiestDayUptoRow, standIns := [], harness := (true, "5d90a05e81ebdec7ce50a30e60a30093309fa4da3015e27c2729b2b4470ed753"), looks := true }, kinds := [], alts := [], laidByText := true, laidKinds := [.sentinel, .sentinel, .sentinel, .sentinel, .sentinel, .sentinel, .sentinel], laidTests := true, laidLooks := .later }
def FnExactBusiestDayUptoCardSaid : Prop := Claim7.holds Tryd.pinned (.plain (OpenSpec.upto fnExactBusiestDaySpec)) fnExactBusiestDayUptoCard

/-- THE SECOND FORM's CARD OF 'laws.FnExactRowOn'. -/
def fnExactRowOnUptoCard : Claim7 := { stood := { row := fnExactRowOnUptoRow, standIns := [], harness := (true, "5d90a05e81ebdec7ce50a30e60a30093309fa4da3015e27c2729b2b4470ed753"), looks := true }, kinds := [], alts := [], laidByText := true, laidKinds := [.sentinel, .sentinel, .sentinel, .sentinel, .sentinel, .sentinel, .sentinel], laidTests := true, laidLooks := .later }
def FnExactRowOnUptoCardSaid : Prop := Claim7.holds Tryd.pinned (.plain (OpenSpec.upto fnExactRowOnSpec)) fnExactRowOnUptoCard
end Rows
end Go.Proofs.YtjiihdljchaeiacDoor
