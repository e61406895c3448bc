/-
  The contracts of the small functions: bottles. No condition but that a bottle's numbers fit their kinds.
-/
import Derived.Test.YtpjmkcgofmfdaacChecked
import Derived.Test.YtpjmkcgofmfdaacCrate
import Derived.WalkKit
namespace Go.Proofs.Ytpjmkcgofmfdaac
open Go.ChangeShapes Go.WideShapes Go.ChangeAt Go.RowKit

/-- Is a bottle valid? -/
def vB (b : Bot) : Bool := decide (1 ≤ b.1) && decide (b.1 ≤ 20) && decide (1900 ≤ b.2) && decide (b.2 ≤ 2099)
/-- Is there no bottle? -/
def eB (b : Bot) : Bool := decide (b.1 = 0) && decide (b.2 = 0)

theorem Try.own : ownKnob Try.prog.godebug = none := by kernel_rfl
theorem Try.laidOut : laidOutB Try.prog = true := by kernel_rfl
/-- What a law's walk has to show. -/
def Good (w : World) (e : Ending) (w' : World) : Prop := e = .returned (.bool true) ∧ Below w.heap.size w w'

theorem ret_bool {a b : Bool} (h : a = b) : Ending.returned (.bool a) = .returned (.bool b) := by rw [h]
theorem ret_i64 {a b : Int} (h : a = b) : Ending.returned (.int .i64 a) = .returned (.int .i64 b) := by rw [h]

theorem toBottle_any (k y : Int) (w : World) : Calls Try.prog 16 #[.agg #[.int .u8 k, .int .i16 y]] w fun e w' => e = .returned (.agg #[.int .u8 k, .int .i16 y]) ∧ Below w.heap.size w w' := by
  go_enter Try.func16, Try.ntmps16
  go_wp2
  refine bodyPost_ret (v := .agg #[.int .u8 k, .int .i16 y]) (by simp [results, Try.results16, go_sem]) rfl ⟨rfl, (by repeat (first | exact Below.refl _ _ | refine Below.drew ?_ | refine Below.alloc ?_ (by simp <;> omega) _ | refine Below.setCell ?_ (by simp <;> omega) _))⟩
end Go.Proofs.Ytpjmkcgofmfdaac
