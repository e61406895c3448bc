/-
  append of whatever slice, beside lists of lists (As0, No).
-/
import Derived.Test.YtcalooahafgfbaaDoorNo
import Derived.Test.YtcalooahafgfbaaDoorAs0
