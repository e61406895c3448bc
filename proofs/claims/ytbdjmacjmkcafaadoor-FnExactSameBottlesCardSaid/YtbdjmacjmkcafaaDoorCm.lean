/-
  The contracts of CompareBottles, of the model and of the program. No condition.
-/
import Derived.Test.YtbdjmacjmkcafaaDoorL
import Derived.WalkKit
import Derived.Deep.RegionHeld3
import Derived.Lib.Hide
namespace Go.Proofs.YtbdjmacjmkcafaaDoor
open Go.ChangeShapes Go.WideShapes Go.ChangeAt Go.RowKit

def cmpI (a b : Int) : Int := if a < b then -1 else if b < a then 1 else 0
def cmpB (a b : Bot) : Int := if a.1 < b.1 then -1 else if b.1 < a.1 then 1 else if a.2 < b.2 then -1 else if b.2 < a.2 then 1 else 0
theorem specCmp_any (k y k' y' : Int) (w : World) : Calls Tryd.prog 22 #[.agg #[.int .u8 k, .int .i16 y], .agg #[.int .u8 k', .int .i16 y']] w fun e w' => e = .returned (.int .i64 (cmpB (k, y) (k', y'))) ∧ Below w.heap.size w w' := by
  go_enter Tryd.func22, Tryd.ntmps22
  go_wp2
  all_goals (go_ret; exact ⟨ret_i64 (by simp [cmpB, *] <;> (repeat' split) <;> omega), (by repeat (first | exact Below.refl _ _ | refine Below.drew ?_ | refine Below.alloc ?_ (by simp <;> omega) _ | refine Below.setCell ?_ (by simp <;> omega) _))⟩)
def orI (x y : Int) : Int := if x = 0 then y else x
theorem orI_cmp (k y k' y' : Int) : orI (cmpI k k') (cmpI y y') = cmpB (k, y) (k', y') := by
  simp only [orI, cmpI, cmpB]
  (repeat' split) <;> omega
end Go.Proofs.YtbdjmacjmkcafaaDoor
