/-
  The contract of isFree. No condition.
-/
import Derived.Test.YtjiihdljchaeiadDoorL
namespace Go.Proofs.YtjiihdljchaeiadDoor
open Go.ChangeShapes Go.WideShapes Go.ChangeAt Go.RowKit Go.Deep
theorem isFree_any (k y : Int) (w : World) : Calls Tryd.prog 29 #[.agg #[.int .u8 k, .int .i16 y]] w fun e w' => e = .returned (.bool (eB (k, y))) ∧ Below w.heap.size w w' := by
  go_enter Tryd.func29, Tryd.ntmps29
  go_wp2
  all_goals (go_ret; exact ⟨ret_bool (by simp [eB, *]), (by repeat (first | exact Below.refl _ _ | refine Below.drew ?_ | refine Below.alloc ?_ (by simp <;> omega) _ | refine Below.setCell ?_ (by simp <;> omega) _))⟩)
end Go.Proofs.YtjiihdljchaeiadDoor
