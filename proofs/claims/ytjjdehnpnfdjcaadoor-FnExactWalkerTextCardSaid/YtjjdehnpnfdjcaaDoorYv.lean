/-
  The contracts of ValidRow and ValidWalkers, of the model and of the program, and of what they call. Condition: the row reads as numbers of eight bits, the walkers' numbers fit their kinds.
-/
import Derived.Test.YtjjdehnpnfdjcaaDoorYv0
import Derived.Test.YtjjdehnpnfdjcaaDoorWk
namespace Go.Proofs.YtjjdehnpnfdjcaaDoor
open Go.ChangeShapes Go.WideShapes Go.ChangeAt Go.RowKit Go.Deep

set_option maxHeartbeats 2000000 in
theorem l05Walker_any (n : Int) (x : Wal) (hx : wfV x) (h1 : 1 ≤ n) (h60 : n ≤ 60) (w : World) :
    Calls Tryd.prog 13 #[.int .i64 n, .agg (vcells x).toArray] w fun e w' => e = .returned (.bool (vOk n x)) ∧ Below w.heap.size w w' := by
  obtain ⟨fi, ev, st, sp, co, tu⟩ := x
  obtain ⟨⟨a0, a1⟩, ⟨b0, b1⟩, ⟨c0, c1⟩, ⟨d0, d1⟩, ⟨e0, e1⟩, f0, f1⟩ := hx
  simp only at a0 a1 b0 b1 c0 c1 d0 d1 e0 e1 f0 f1
  have hw1 : IntKind.i64.wrap (n - 1) = n - 1 := IntWalk.i64_in _ ⟨by omega, by omega⟩
  have hw2 : wrap64 (n - 1) = n - 1 := IntWalk.wrap64_in _ ⟨by omega, by omega⟩
  show Calls Tryd.prog 13 #[.int .i64 n, .agg #[.int .i16 fi, .int .i16 ev, .int .i16 st, .int .i16 sp, .int .i16 co, .int .i8 tu]] w fun e w' => e = .returned (.bool (vOk n ⟨fi, ev, st, sp, co, tu⟩)) ∧ Below w.heap.size w w'
  go_enter Tryd.func13, Tryd.ntmps13
  go_wp2
  all_goals (go_ret; exact ⟨ret_bool (by (try simp only [Bool.not_eq_true', Bool.not_eq_false', decide_eq_true_eq, decide_eq_false_iff_not] at *); simp [vOk, *] <;> omega), (by repeat (first | exact Below.refl _ _ | refine Below.drew ?_ | refine Below.alloc ?_ (by simp <;> omega) _ | refine Below.setCell ?_ (by simp <;> omega) _))⟩)
set_option maxHeartbeats 2000000 in
theorem isWalker_any (n : Int) (x : Wal) (hx : wfV x) (h1 : 1 ≤ n) (h60 : n ≤ 60) (w : World) :
    Calls Tryd.prog 27 #[.int .i64 n, .agg (vcells x).toArray] w fun e w' => e = .returned (.bool (vOk n x)) ∧ Below w.heap.size w w' := by
  obtain ⟨fi, ev, st, sp, co, tu⟩ := x
  obtain ⟨⟨a0, a1⟩, ⟨b0, b1⟩, ⟨c0, c1⟩, ⟨d0, d1⟩, ⟨e0, e1⟩, f0, f1⟩ := hx
  simp only at a0 a1 b0 b1 c0 c1 d0 d1 e0 e1 f0 f1
  have hw1 : IntKind.i64.wrap (n - 1) = n - 1 := IntWalk.i64_in _ ⟨by omega, by omega⟩
  have hw2 : wrap64 (n - 1) = n - 1 := IntWalk.wrap64_in _ ⟨by omega, by omega⟩
  show Calls Tryd.prog 27 #[.int .i64 n, .agg #[.int .i16 fi, .int .i16 ev, .int .i16 st, .int .i16 sp, .int .i16 co, .int .i8 tu]] w fun e w' => e = .returned (.bool (vOk n ⟨fi, ev, st, sp, co, tu⟩)) ∧ Below w.heap.size w w'
  go_enter Tryd.func27, Tryd.ntmps27
  go_wp2
  all_goals (go_ret; exact ⟨ret_bool (by (try simp only [Bool.not_eq_true', Bool.not_eq_false', decide_eq_true_eq, decide_eq_false_iff_not] at *); simp [vOk, *] <;> omega), (by repeat (first | exact Below.refl _ _ | refine Below.drew ?_ | refine Below.alloc ?_ (by simp <;> omega) _ | refine Below.setCell ?_ (by simp <;> omega) _))⟩)

end Go.Proofs.YtjjdehnpnfdjcaaDoor
