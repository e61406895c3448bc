/-
  append of whatever slice, beside lists of lists (As0, No).
-/
import Derived.Test.YtfmfgpipklmecaaDoorNo
import Derived.Test.YtfmfgpipklmecaaDoorAs0
