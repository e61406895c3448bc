/-
  The contract of the model's MoveBottle. Condition: the crate's length, that its numbers and those of the move fit their kinds.
-/
import Derived.Test.YtaigimdehlclfaaDoorMo
import Derived.Test.YtaigimdehlclfaaDoorSq
import Derived.Test.YtaigimdehlclfaaDoorKa
namespace Go.Proofs.YtaigimdehlclfaaDoor
open Go.ChangeShapes Go.WideShapes Go.ChangeAt Go.RowKit Go.Deep

/-- The code of a move. -/
def mbC (bs : List Bot) (s : Swp) : Int := if okC bs = true then mvC bs s else 1
/-- The crate that MoveBottle answers. -/
def mbL (bs : List Bot) (s : Swp) : List Bot := if mbC bs s = 0 then mvR bs s else noB
theorem mbC_bad {bs : List Bot} (s : Swp) (h : okC bs = false) : mbC bs s = 1 := by simp [mbC, h]
theorem mbC_ok {bs : List Bot} (s : Swp) (h : okC bs = true) : mbC bs s = mvC bs s := by simp [mbC, h]
theorem mbL_no {bs : List Bot} {s : Swp} {c : Int} (h : mbC bs s = c) (hc : c ≠ 0) : mbL bs s = noB := by rw [mbL, if_neg (by rw [h]; exact hc)]
theorem mbL_of {bs : List Bot} {s : Swp} (h : mbC bs s = 0) : mbL bs s = mvR bs s := by rw [mbL, if_pos h]
theorem mbL_wf {bs : List Bot} (h : WfC bs) (s : Swp) : WfC (mbL bs s) := by
  by_cases h0 : mbC bs s = 0
  · rw [mbL_of h0]; exact mvR_wf h s
  · rw [mbL_no rfl h0]; exact wfNo

end Go.Proofs.YtaigimdehlclfaaDoor
