/-
  append of whatever slice, beside lists of lists (As0, No).
-/
import Derived.Test.YtlfamfdgphhbcabDoorNo
import Derived.Test.YtlfamfdgphhbcabDoorAs0
