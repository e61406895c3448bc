/-
  The contract of toCrate: it copies a crate. No condition but the crate's length.
-/
import Derived.Test.YtmfdgpinohbckaaDoorL
import Derived.WalkKit
import Derived.Lib.Hide
namespace Go.Proofs.YtmfdgpinohbckaaDoor
open Go.ChangeShapes Go.WideShapes Go.ChangeAt Go.RowKit

def noB : List Bot := [(0, 0), (0, 0), (0, 0), (0, 0), (0, 0), (0, 0), (0, 0), (0, 0), (0, 0), (0, 0), (0, 0), (0, 0)]
theorem size_of_crate {P : Program} {t : TypeId} (h : (P.info? t).map (·.size) = some 24) (X : List Bot) (hl : X.length = 12) : (P.info? t).map (·.size) = some (ccells X).toArray.size := by rw [ccells_size X hl]; exact h

end Go.Proofs.YtmfdgpinohbckaaDoor
