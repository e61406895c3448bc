/-
  append of whatever slice, beside lists of lists (As0, No).
-/
import Derived.Test.YtabajhblgnlhgaaDoorNo
import Derived.Test.YtabajhblgnlhgaaDoorAs0
