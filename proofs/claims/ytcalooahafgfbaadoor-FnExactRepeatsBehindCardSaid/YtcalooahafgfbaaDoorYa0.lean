/-
  The program's checks of rows and of numbers. Condition: the row reads as numbers of eight bits; the sentinel errors lie as the row lists them.
-/
import Derived.Test.YtcalooahafgfbaaDoorYv0
import Derived.Test.YtcalooahafgfbaaDoorEo
namespace Go.Proofs.YtcalooahafgfbaaDoor
open Go.ChangeShapes Go.WideShapes Go.ChangeAt Go.RowKit Go.Deep

/-- A slice of rows: heads that read as rows. -/
def hdR (r : Option Addr × Nat × Nat) : List Value := [.slice r.1 r.2.1 r.2.2]
end Go.Proofs.YtcalooahafgfbaaDoor
