/-
  What is valid: prices, entries, ledgers; the contracts, of the model and of the program. Condition: numbers fit their kinds.
-/
import Derived.Test.YtjjdehnpnfdjcabDoorHe
import Derived.Test.YtjjdehnpnfdjcabDoorYv0
import Derived.Test.YtjjdehnpnfdjcabDoorHp
namespace Go.Proofs.YtjjdehnpnfdjcabDoor
open Go.ChangeShapes Go.WideShapes Go.ChangeAt Go.RowKit Go.Deep

theorem enOk_out {n : Int} {e : Ent} (h : ¬(1 ≤ n ∧ n ≤ 6)) : enOk n e = false := by
  rw [Bool.eq_false_iff]; intro he; exact h (enOk_iff.1 he).1
set_option maxHeartbeats 4000000 in
theorem implValidEntry_any (n : Int) (x : Ent) (hx : wfE x) (w : World) :
    Calls Tryd.prog 64 #[.int .i64 n, .agg (ecells x).toArray] w fun e w' => e = .returned (.bool (enOk n x)) ∧ Below w.heap.size w w' := by
  obtain ⟨dy, fr, to, wh, nu⟩ := x
  obtain ⟨⟨a0, a1⟩, ⟨b0, b1⟩, ⟨c0, c1⟩, ⟨d0, d1⟩, f0, f1⟩ := hx
  simp only at a0 a1 b0 b1 c0 c1 d0 d1 f0 f1
  show Calls Tryd.prog 64 #[.int .i64 n, .agg #[.int .i16 dy, .int .i8 fr, .int .i8 to, .int .u8 wh, .int .i16 nu]] w fun e w' => e = .returned (.bool (enOk n ⟨dy, fr, to, wh, nu⟩)) ∧ Below w.heap.size w w'
  by_cases h16 : 1 ≤ n ∧ n ≤ 6
  rotate_left
  · have HO : Hid (∀ e : Ent, enOk n e = false) := fun e => enOk_out h16
    by_cases hn : 1 ≤ n
    · have hn6 : 6 < n := by omega
      clear h16
      go_enter Tryd.func64, Tryd.ntmps64
      go_wp2
      all_goals (go_ret; exact ⟨ret_bool (HO.out _).symm, (by repeat (first | exact Below.refl _ _ | refine Below.drew ?_ | refine Below.alloc ?_ (by simp <;> omega) _ | refine Below.setCell ?_ (by simp <;> omega) _))⟩)
    · have hn6 : n < 1 := by omega
      clear h16 hn
      go_enter Tryd.func64, Tryd.ntmps64
      go_wp2
      all_goals (go_ret; exact ⟨ret_bool (HO.out _).symm, (by repeat (first | exact Below.refl _ _ | refine Below.drew ?_ | refine Below.alloc ?_ (by simp <;> omega) _ | refine Below.setCell ?_ (by simp <;> omega) _))⟩)
  obtain ⟨h1, h6⟩ := h16
  have hw1 : IntKind.i64.wrap (n - 1) = n - 1 := IntWalk.i64_in _ ⟨by omega, by omega⟩
  have hw2 : wrap64 (n - 1) = n - 1 := IntWalk.wrap64_in _ ⟨by omega, by omega⟩
  go_enter Tryd.func64, Tryd.ntmps64
  go_wp2
  all_goals (go_ret; exact ⟨ret_bool (by (try simp only [Bool.not_eq_true', Bool.not_eq_false', decide_eq_true_eq, decide_eq_false_iff_not] at *); first | (simp [enOk, wi, *] <;> omega; done) | (rw [Bool.eq_iff_iff, enOk_iff]; by_cases q1 : fr = to <;> by_cases q2 : wh = 3 <;> by_cases q3 : wh = 4 <;> by_cases q4 : 3 ≤ wh <;> simp [q1, q2, q3, q4, Bool.beq_eq_decide_eq] <;> omega)), (by repeat (first | exact Below.refl _ _ | refine Below.drew ?_ | refine Below.alloc ?_ (by simp <;> omega) _ | refine Below.setCell ?_ (by simp <;> omega) _))⟩)
set_option maxHeartbeats 4000000 in
theorem l06Entry_any (n : Int) (x : Ent) (hx : wfE x) (b o : Nat) (w : World) (hr : w.rangeAt b o (ecells x)) :
    Calls Tryd.prog 61 #[.int .i64 n, .pointer (some ⟨b, o, none⟩)] w fun e w' => e = .returned (.bool (enOk n x)) ∧ Below w.heap.size w w' := by
  obtain ⟨dy, fr, to, wh, nu⟩ := x
  obtain ⟨⟨a0, a1⟩, ⟨b0, b1⟩, ⟨c0, c1⟩, ⟨d0, d1⟩, f0, f1⟩ := hx
  simp only at a0 a1 b0 b1 c0 c1 d0 d1 f0 f1
  have g0 : w.cell? ⟨b, o, none⟩ = some (.int .i16 dy) := by simpa using hr 0 _ rfl
  have g1 : w.cell? ⟨b, o + 1, none⟩ = some (.int .i8 fr) := hr 1 _ rfl
  have g2 : w.cell? ⟨b, o + 2, none⟩ = some (.int .i8 to) := hr 2 _ rfl
  have g3 : w.cell? ⟨b, o + 3, none⟩ = some (.int .u8 wh) := hr 3 _ rfl
  have g4 : w.cell? ⟨b, o + 4, none⟩ = some (.int .i16 nu) := hr 4 _ rfl
  clear hr
  by_cases h16 : 1 ≤ n ∧ n ≤ 6
  rotate_left
  · have HO : Hid (∀ e : Ent, enOk n e = false) := fun e => enOk_out h16
    by_cases hn : 1 ≤ n
    · have hn6 : 6 < n := by omega
      clear h16
      go_enter Tryd.func61, Tryd.ntmps61
      go_wp2
      all_goals (go_ret; exact ⟨ret_bool (HO.out _).symm, (by repeat (first | exact Below.refl _ _ | refine Below.drew ?_ | refine Below.alloc ?_ (by simp <;> omega) _ | refine Below.setCell ?_ (by simp <;> omega) _))⟩)
    · have hn6 : n < 1 := by omega
      clear h16 hn
      go_enter Tryd.func61, Tryd.ntmps61
      go_wp2
      all_goals (go_ret; exact ⟨ret_bool (HO.out _).symm, (by repeat (first | exact Below.refl _ _ | refine Below.drew ?_ | refine Below.alloc ?_ (by simp <;> omega) _ | refine Below.setCell ?_ (by simp <;> omega) _))⟩)
  obtain ⟨h1, h6⟩ := h16
  have hw1 : IntKind.i64.wrap (n - 1) = n - 1 := IntWalk.i64_in _ ⟨by omega, by omega⟩
  have hw2 : wrap64 (n - 1) = n - 1 := IntWalk.wrap64_in _ ⟨by omega, by omega⟩
  go_enter Tryd.func61, Tryd.ntmps61
  go_wp2
  all_goals first | (go_ret; exact ⟨ret_bool (by (try simp only [Bool.not_eq_true', Bool.not_eq_false', decide_eq_true_eq, decide_eq_false_iff_not] at *); first | (simp [enOk, wi, *] <;> omega; done) | (rw [Bool.eq_iff_iff, enOk_iff]; by_cases q1 : fr = to <;> by_cases q2 : wh = 3 <;> by_cases q3 : wh = 4 <;> by_cases q4 : 3 ≤ wh <;> simp [q1, q2, q3, q4, Bool.beq_eq_decide_eq] <;> omega)), (by repeat (first | exact Below.refl _ _ | refine Below.drew ?_ | refine Below.alloc ?_ (by simp <;> omega) _ | refine Below.setCell ?_ (by simp <;> omega) _))⟩) | (go_region; go_wp2; go_ret; exact ⟨ret_bool (by (try simp only [Bool.not_eq_true', Bool.not_eq_false', decide_eq_true_eq, decide_eq_false_iff_not] at *); first | (simp [enOk, wi, *] <;> omega; done) | (rw [Bool.eq_iff_iff, enOk_iff]; by_cases q1 : fr = to <;> by_cases q2 : wh = 3 <;> by_cases q3 : wh = 4 <;> by_cases q4 : 3 ≤ wh <;> simp [q1, q2, q3, q4, Bool.beq_eq_decide_eq] <;> omega)), (by repeat (first | exact Below.refl _ _ | refine Below.drew ?_ | refine Below.alloc ?_ (by simp <;> omega) _ | refine Below.setCell ?_ (by simp <;> omega) _))⟩)
end Go.Proofs.YtjjdehnpnfdjcabDoor
