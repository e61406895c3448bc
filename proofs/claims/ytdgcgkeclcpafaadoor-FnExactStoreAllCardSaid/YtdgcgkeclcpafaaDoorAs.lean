/-
  append of whatever slice, beside lists of lists (As0, No).
-/
import Derived.Test.YtdgcgkeclcpafaaDoorNo
import Derived.Test.YtdgcgkeclcpafaaDoorAs0
