/-
  The contracts of the model's l03Can and l03Swapped. Condition: the crate's length, that its numbers fit their kinds, and that both numbers of the swap are places.
-/
import Derived.Test.YtjjdehnpnfdjcaaDoorSmq
import Derived.Test.YtjjdehnpnfdjcaaDoorW0
import Derived.Deep.RegionHeld3
namespace Go.Proofs.YtjjdehnpnfdjcaaDoor
open Go.ChangeShapes Go.WideShapes Go.ChangeAt Go.RowKit Go.Deep

theorem l03Can_any (x y : Int) (hx : -128 ≤ x ∧ x ≤ 127) (hy : -128 ≤ y ∧ y ≤ 127) (w : World) : Calls Tryd.prog 18 #[.agg #[.int .i8 x, .int .i8 y]] w fun e w' => e = .returned (.bool (canS (x, y))) ∧ Below w.heap.size w w' := by
  obtain ⟨x1, x2⟩ := hx
  obtain ⟨y1, y2⟩ := hy
  go_enter Tryd.func18, Tryd.ntmps18
  go_wp2
  all_goals (go_ret; exact ⟨ret_bool (by simp [canS, plI, *] <;> omega), (by repeat (first | exact Below.refl _ _ | refine Below.drew ?_ | refine Below.alloc ?_ (by simp <;> omega) _ | refine Below.setCell ?_ (by simp <;> omega) _))⟩)
end Go.Proofs.YtjjdehnpnfdjcaaDoor
