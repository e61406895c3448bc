/-
  Pairs: the contract of the program's table. Condition: at most eight samples.
-/
import Derived.Test.YtfmfgpipklmecaaDoorZp
namespace Go.Proofs.YtfmfgpipklmecaaDoor
open Go.ChangeShapes Go.WideShapes Go.ChangeAt Go.RowKit Go.Deep
open Go.Maps (Keyed)

end Go.Proofs.YtfmfgpipklmecaaDoor
