/-
  append of whatever slice, beside lists of lists (As0, No).
-/
import Derived.Test.YtlagnocglkoomaaDoorNo
import Derived.Test.YtlagnocglkoomaaDoorAs0
