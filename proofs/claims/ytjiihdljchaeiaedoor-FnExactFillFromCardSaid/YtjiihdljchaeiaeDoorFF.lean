/-
  The contract of isFree. No condition.
-/
import Derived.Test.YtjiihdljchaeiaeDoorL
namespace Go.Proofs.YtjiihdljchaeiaeDoor
open Go.ChangeShapes Go.WideShapes Go.ChangeAt Go.RowKit Go.Deep
theorem isFree_any (k y : Int) (w : World) : Calls Tryd.prog 30 #[.agg #[.int .u8 k, .int .i16 y]] w fun e w' => e = .returned (.bool (eB (k, y))) ∧ Below w.heap.size w w' := by
  go_enter Tryd.func30, Tryd.ntmps30
  go_wp2
  all_goals (go_ret; exact ⟨ret_bool (by simp [eB, *]), (by repeat (first | exact Below.refl _ _ | refine Below.drew ?_ | refine Below.alloc ?_ (by simp <;> omega) _ | refine Below.setCell ?_ (by simp <;> omega) _))⟩)
end Go.Proofs.YtjiihdljchaeiaeDoor
