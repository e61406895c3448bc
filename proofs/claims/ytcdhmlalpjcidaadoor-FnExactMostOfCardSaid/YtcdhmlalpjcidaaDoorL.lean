/-
  The contracts of the small functions: bottles. No condition but that a bottle's numbers fit their kinds.
-/
import Derived.Test.YtcdhmlalpjcidaaDoorChecked
import Derived.Test.YtcdhmlalpjcidaaDoorCrate
import Derived.WalkKit
namespace Go.Proofs.YtcdhmlalpjcidaaDoor
open Go.ChangeShapes Go.WideShapes Go.ChangeAt Go.RowKit

/-- Is a bottle valid? -/
def vB (b : Bot) : Bool := decide (1 ≤ b.1) && decide (b.1 ≤ 20) && decide (1900 ≤ b.2) && decide (b.2 ≤ 2099)
/-- Is there no bottle? -/
def eB (b : Bot) : Bool := decide (b.1 = 0) && decide (b.2 = 0)

theorem Tryd.own : ownKnob Tryd.prog.godebug = none := by kernel_rfl
theorem Tryd.laidOut : laidOutB Tryd.prog = true := by kernel_rfl
/-- What a law's walk has to show. -/
def Good (w : World) (e : Ending) (w' : World) : Prop := e = .returned (.bool true) ∧ Below w.heap.size w w'

theorem ret_bool {a b : Bool} (h : a = b) : Ending.returned (.bool a) = .returned (.bool b) := by rw [h]
theorem ret_i64 {a b : Int} (h : a = b) : Ending.returned (.int .i64 a) = .returned (.int .i64 b) := by rw [h]

theorem toBottle_any (k y : Int) (w : World) : Calls Tryd.prog 37 #[.agg #[.int .u8 k, .int .i16 y]] w fun e w' => e = .returned (.agg #[.int .u8 k, .int .i16 y]) ∧ Below w.heap.size w w' := by
  go_enter Tryd.func37, Tryd.ntmps37
  go_wp2
  refine bodyPost_ret (v := .agg #[.int .u8 k, .int .i16 y]) (by simp [results, Tryd.results37, go_sem]) rfl ⟨rfl, (by repeat (first | exact Below.refl _ _ | refine Below.drew ?_ | refine Below.alloc ?_ (by simp <;> omega) _ | refine Below.setCell ?_ (by simp <;> omega) _))⟩
theorem l00In_any (n lo hi : Int) (w : World) : Calls Tryd.prog 68 #[.int .i64 n, .int .i64 lo, .int .i64 hi] w fun e w' => e = .returned (.bool (decide (lo ≤ n) && decide (n ≤ hi))) ∧ w = w' := by
  go_enter Tryd.func68, Tryd.ntmps68
  go_wp2
  all_goals (go_ret; exact ⟨ret_bool (by simp [*] <;> omega), rfl⟩)
theorem l01Free_any (k y : Int) (w : World) : Calls Tryd.prog 57 #[.agg #[.int .u8 k, .int .i16 y]] w fun e w' => e = .returned (.bool (eB (k, y))) ∧ Below w.heap.size w w' := by
  go_enter Tryd.func57, Tryd.ntmps57
  go_wp2
  all_goals (go_ret; exact ⟨ret_bool (by simp [eB, *]), (by repeat (first | exact Below.refl _ _ | refine Below.drew ?_ | refine Below.alloc ?_ (by simp <;> omega) _ | refine Below.setCell ?_ (by simp <;> omega) _))⟩)
theorem isBottle_any (k y : Int) (w : World) : Calls Tryd.prog 104 #[.agg #[.int .u8 k, .int .i16 y]] w fun e w' => e = .returned (.bool (!eB (k, y))) ∧ Below w.heap.size w w' := by
  go_enter Tryd.func104, Tryd.ntmps104
  go_wp2
  all_goals (go_ret; exact ⟨ret_bool (by simp [eB, *]), (by repeat (first | exact Below.refl _ _ | refine Below.drew ?_ | refine Below.alloc ?_ (by simp <;> omega) _ | refine Below.setCell ?_ (by simp <;> omega) _))⟩)
theorem validBottle_any (k y : Int) (w : World) : Calls Tryd.prog 111 #[.agg #[.int .u8 k, .int .i16 y]] w fun e w' => e = .returned (.bool (vB (k, y))) ∧ Below w.heap.size w w' := by
  go_enter Tryd.func111, Tryd.ntmps111
  go_wp2
  all_goals (go_ret; exact ⟨ret_bool (by simp [vB, *] <;> omega), (by repeat (first | exact Below.refl _ _ | refine Below.drew ?_ | refine Below.alloc ?_ (by simp <;> omega) _ | refine Below.setCell ?_ (by simp <;> omega) _))⟩)
theorem l01Bottle_any (k y : Int) (hk : 0 ≤ k ∧ k ≤ 255) (hy : -32768 ≤ y ∧ y ≤ 32767) (w : World) : Calls Tryd.prog 58 #[.agg #[.int .u8 k, .int .i16 y]] w fun e w' => e = .returned (.bool (vB (k, y))) ∧ Below w.heap.size w w' := by
  obtain ⟨k1, k2⟩ := hk
  obtain ⟨y1, y2⟩ := hy
  go_enter Tryd.func58, Tryd.ntmps58
  go_wp2
  all_goals (go_ret; exact ⟨ret_bool (by simp [vB, *] <;> omega), (by repeat (first | exact Below.refl _ _ | refine Below.drew ?_ | refine Below.alloc ?_ (by simp <;> omega) _ | refine Below.setCell ?_ (by simp <;> omega) _))⟩)
end Go.Proofs.YtcdhmlalpjcidaaDoor
