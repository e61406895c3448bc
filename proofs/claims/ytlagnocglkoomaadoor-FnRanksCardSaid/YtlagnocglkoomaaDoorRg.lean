/-
  A guarded operation of a region that is wanted. No condition of its own.
-/
import Derived.Test.YtlagnocglkoomaaDoorW0
namespace Go.Proofs.YtlagnocglkoomaaDoor
open Go.ChangeShapes Go.WideShapes Go.ChangeAt Go.RowKit Go.Deep
theorem if_wanted2 {P : Program} {ops : Array Oper} {o : Oper} {a : Act} {w : World} {K : Act → World → Prop} {Q : Exit → Act → World → Prop} {E : Prop} (hg : Region.wanted o (yielded ops a.tmps) = true) (h : Oper.wp P o a w K Q) :
    if Region.wanted o (yielded ops a.tmps) = true then Oper.wp P o a w K Q else E := by
  rw [if_pos hg]; exact h
end Go.Proofs.YtlagnocglkoomaaDoor
