/-
  RowOn: the contracts, of the model and of the program. Condition: the row and the walkers read as told; the sentinel errors lie as the row lists them (the program's).
-/
import Derived.Test.YtcalooahafgfbaaDoorYr1
import Derived.Test.YtcalooahafgfbaaDoorYd
namespace Go.Proofs.YtcalooahafgfbaaDoor
open Go.ChangeShapes Go.WideShapes Go.ChangeAt Go.RowKit Go.Deep

theorem wfY_7 {r : List Int} (hv : yOk r = true) (hwf : ∀ a ∈ r, wfY a) : ∀ a ∈ r, 0 ≤ a ∧ a ≤ 7 := fun a ha => ⟨(hwf a ha).1, (yOk_out hv).1 a ha⟩
end Go.Proofs.YtcalooahafgfbaaDoor
