/-
  append of whatever slice, beside lists of lists (As0, No).
-/
import Derived.Test.YtajnkkiabjiplabDoorNo
import Derived.Test.YtajnkkiabjiplabDoorAs0
