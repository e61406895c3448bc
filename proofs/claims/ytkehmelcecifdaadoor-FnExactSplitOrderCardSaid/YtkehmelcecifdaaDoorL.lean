/-
  The contracts of the small functions: bottles. No condition but that a bottle's numbers fit their kinds.
-/
import Derived.Test.YtkehmelcecifdaaDoorChecked
import Derived.Test.YtkehmelcecifdaaDoorCrate
import Derived.WalkKit
namespace Go.Proofs.YtkehmelcecifdaaDoor
open Go.ChangeShapes Go.WideShapes Go.ChangeAt Go.RowKit

/-- Is a bottle valid? -/
def vB (b : Bot) : Bool := decide (1 ≤ b.1) && decide (b.1 ≤ 20) && decide (1900 ≤ b.2) && decide (b.2 ≤ 2099)
/-- Is there no bottle? -/
def eB (b : Bot) : Bool := decide (b.1 = 0) && decide (b.2 = 0)

theorem Tryd.own : ownKnob Tryd.prog.godebug = none := by kernel_rfl
theorem Tryd.laidOut : laidOutB Tryd.prog = true := by kernel_rfl
/-- What a law's walk has to show. -/
def Good (w : World) (e : Ending) (w' : World) : Prop := e = .returned (.bool true) ∧ Below w.heap.size w w'

theorem ret_bool {a b : Bool} (h : a = b) : Ending.returned (.bool a) = .returned (.bool b) := by rw [h]
theorem ret_i64 {a b : Int} (h : a = b) : Ending.returned (.int .i64 a) = .returned (.int .i64 b) := by rw [h]

theorem toBottle_any (k y : Int) (w : World) : Calls Tryd.prog 43 #[.agg #[.int .u8 k, .int .i16 y]] w fun e w' => e = .returned (.agg #[.int .u8 k, .int .i16 y]) ∧ Below w.heap.size w w' := by
  go_enter Tryd.func43, Tryd.ntmps43
  go_wp2
  refine bodyPost_ret (v := .agg #[.int .u8 k, .int .i16 y]) (by simp [results, Tryd.results43, go_sem]) rfl ⟨rfl, (by repeat (first | exact Below.refl _ _ | refine Below.drew ?_ | refine Below.alloc ?_ (by simp <;> omega) _ | refine Below.setCell ?_ (by simp <;> omega) _))⟩
theorem l00In_any (n lo hi : Int) (w : World) : Calls Tryd.prog 51 #[.int .i64 n, .int .i64 lo, .int .i64 hi] w fun e w' => e = .returned (.bool (decide (lo ≤ n) && decide (n ≤ hi))) ∧ w = w' := by
  go_enter Tryd.func51, Tryd.ntmps51
  go_wp2
  all_goals (go_ret; exact ⟨ret_bool (by simp [*] <;> omega), rfl⟩)
theorem l01Free_any (k y : Int) (w : World) : Calls Tryd.prog 150 #[.agg #[.int .u8 k, .int .i16 y]] w fun e w' => e = .returned (.bool (eB (k, y))) ∧ Below w.heap.size w w' := by
  go_enter Tryd.func150, Tryd.ntmps150
  go_wp2
  all_goals (go_ret; exact ⟨ret_bool (by simp [eB, *]), (by repeat (first | exact Below.refl _ _ | refine Below.drew ?_ | refine Below.alloc ?_ (by simp <;> omega) _ | refine Below.setCell ?_ (by simp <;> omega) _))⟩)
theorem isBottle_any (k y : Int) (w : World) : Calls Tryd.prog 152 #[.agg #[.int .u8 k, .int .i16 y]] w fun e w' => e = .returned (.bool (!eB (k, y))) ∧ Below w.heap.size w w' := by
  go_enter Tryd.func152, Tryd.ntmps152
  go_wp2
  all_goals (go_ret; exact ⟨ret_bool (by simp [eB, *]), (by repeat (first | exact Below.refl _ _ | refine Below.drew ?_ | refine Below.alloc ?_ (by simp <;> omega) _ | refine Below.setCell ?_ (by simp <;> omega) _))⟩)
theorem validBottle_any (k y : Int) (w : World) : Calls Tryd.prog 82 #[.agg #[.int .u8 k, .int .i16 y]] w fun e w' => e = .returned (.bool (vB (k, y))) ∧ Below w.heap.size w w' := by
  go_enter Tryd.func82, Tryd.ntmps82
  go_wp2
  all_goals (go_ret; exact ⟨ret_bool (by simp [vB, *] <;> omega), (by repeat (first | exact Below.refl _ _ | refine Below.drew ?_ | refine Below.alloc ?_ (by simp <;> omega) _ | refine Below.setCell ?_ (by simp <;> omega) _))⟩)
theorem l01Bottle_any (k y : Int) (hk : 0 ≤ k ∧ k ≤ 255) (hy : -32768 ≤ y ∧ y ≤ 32767) (w : World) : Calls Tryd.prog 74 #[.agg #[.int .u8 k, .int .i16 y]] w fun e w' => e = .returned (.bool (vB (k, y))) ∧ Below w.heap.size w w' := by
  obtain ⟨k1, k2⟩ := hk
  obtain ⟨y1, y2⟩ := hy
  go_enter Tryd.func74, Tryd.ntmps74
  go_wp2
  all_goals (go_ret; exact ⟨ret_bool (by simp [vB, *] <;> omega), (by repeat (first | exact Below.refl _ _ | refine Below.drew ?_ | refine Below.alloc ?_ (by simp <;> omega) _ | refine Below.setCell ?_ (by simp <;> omega) _))⟩)
end Go.Proofs.YtkehmelcecifdaaDoor
