/-
  The answers' crates of swaps are in order. No condition of its own.
-/
import Derived.Test.YtidfddemcjjgdaaDoorSt
import Derived.Test.YtidfddemcjjgdaaDoorKa
namespace Go.Proofs.YtidfddemcjjgdaaDoor
open Go.ChangeShapes Go.WideShapes Go.ChangeAt Go.RowKit Go.Deep

theorem saL_wf {bs : List Bot} (h : WfC bs) (xs : List Swp) : WfC (saL bs xs) := by
  by_cases h0 : saC bs xs = 0
  · rw [saL_of h0]; exact swTo_wf h (saC_zero h0).2.2 _
  · rw [saL_no rfl h0]; exact wfNo
end Go.Proofs.YtidfddemcjjgdaaDoor
