/-
  The contracts of the small functions: bottles. No condition but that a bottle's numbers fit their kinds.
-/
import Derived.Test.YtcalooahafgfbaaDoorChecked
import Derived.Test.YtcalooahafgfbaaDoorCrate
import Derived.WalkKit
namespace Go.Proofs.YtcalooahafgfbaaDoor
open Go.ChangeShapes Go.WideShapes Go.ChangeAt Go.RowKit

/-- Is a bottle valid? -/
def vB (b : Bot) : Bool := decide (1 ≤ b.1) && decide (b.1 ≤ 20) && decide (1900 ≤ b.2) && decide (b.2 ≤ 2099)
/-- Is there no bottle? -/
def eB (b : Bot) : Bool := decide (b.1 = 0) && decide (b.2 = 0)

theorem Tryd.own : ownKnob Tryd.prog.godebug = none := by kernel_rfl
theorem Tryd.laidOut : laidOutB Tryd.prog = true := by kernel_rfl
/-- What a law's walk has to show. -/
def Good (w : World) (e : Ending) (w' : World) : Prop := e = .returned (.bool true) ∧ Below w.heap.size w w'

theorem ret_bool {a b : Bool} (h : a = b) : Ending.returned (.bool a) = .returned (.bool b) := by rw [h]
theorem ret_i64 {a b : Int} (h : a = b) : Ending.returned (.int .i64 a) = .returned (.int .i64 b) := by rw [h]

theorem l00In_any (n lo hi : Int) (w : World) : Calls Tryd.prog 34 #[.int .i64 n, .int .i64 lo, .int .i64 hi] w fun e w' => e = .returned (.bool (decide (lo ≤ n) && decide (n ≤ hi))) ∧ w = w' := by
  go_enter Tryd.func34, Tryd.ntmps34
  go_wp2
  all_goals (go_ret; exact ⟨ret_bool (by simp [*] <;> omega), rfl⟩)
end Go.Proofs.YtcalooahafgfbaaDoor
