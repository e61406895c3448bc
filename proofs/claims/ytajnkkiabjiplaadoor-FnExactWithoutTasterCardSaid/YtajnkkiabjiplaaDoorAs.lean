/-
  append of whatever slice, beside lists of lists (As0, No).
-/
import Derived.Test.YtajnkkiabjiplaaDoorNo
import Derived.Test.YtajnkkiabjiplaaDoorAs0
