/-
  append of whatever slice, beside lists of lists (As0, No).
-/
import Derived.Test.YtglhjdnencpdiaaDoorNo
import Derived.Test.YtglhjdnencpdiaaDoorAs0
