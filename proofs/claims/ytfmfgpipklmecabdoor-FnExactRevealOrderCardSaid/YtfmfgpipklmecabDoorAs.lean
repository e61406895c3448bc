/-
  append of whatever slice, beside lists of lists (As0, No).
-/
import Derived.Test.YtfmfgpipklmecabDoorNo
import Derived.Test.YtfmfgpipklmecabDoorAs0
