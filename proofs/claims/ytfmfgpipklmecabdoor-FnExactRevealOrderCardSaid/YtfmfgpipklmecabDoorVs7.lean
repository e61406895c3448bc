/-
  slices.Values over numbers of the kind int64, and what AppendSeq, Collect, Sort, Sorted make of it. Condition: at most 12 numbers, and at least one (Sort, Sorted).
-/
import Derived.RangeFuncNested
import Derived.RangeFuncBox
import Derived.RangeFuncBound
import Derived.RangeFuncCalls
import Derived.RangeFuncLeaves
import Derived.Shelf.Abstract
import Derived.Shelf.RegionOpen
import Derived.OwnWalkIn
import Derived.TacticsInMore
import Derived.LoopNIn
import Derived.LoopIn
import Derived.Test.YtfmfgpipklmecabDoorOr1
namespace Go.Proofs.YtfmfgpipklmecabDoor
open Go.RowKit Go.Shelf Go.ChangeShapes Go.WideShapes Go.ChangeAt Go.Deep
attribute [local go_sem] Oper.semAt_some

end Go.Proofs.YtfmfgpipklmecabDoor
