/-
  append of whatever slice, beside lists of lists (As0, No).
-/
import Derived.Test.YtlfamfdgphhbcaaDoorNo
import Derived.Test.YtlfamfdgphhbcaaDoorAs0
