/-
  The contracts of CompareBottles, of the model and of the program. No condition.
-/
import Derived.Test.YtcdhmlalpjcidaaDoorL
import Derived.WalkKit
import Derived.Deep.RegionHeld3
import Derived.Lib.Hide
namespace Go.Proofs.YtcdhmlalpjcidaaDoor
open Go.ChangeShapes Go.WideShapes Go.ChangeAt Go.RowKit

def cmpI (a b : Int) : Int := if a < b then -1 else if b < a then 1 else 0
def cmpB (a b : Bot) : Int := if a.1 < b.1 then -1 else if b.1 < a.1 then 1 else if a.2 < b.2 then -1 else if b.2 < a.2 then 1 else 0
theorem specCmp_any (k y k' y' : Int) (w : World) : Calls Tryd.prog 59 #[.agg #[.int .u8 k, .int .i16 y], .agg #[.int .u8 k', .int .i16 y']] w fun e w' => e = .returned (.int .i64 (cmpB (k, y) (k', y'))) ∧ Below w.heap.size w w' := by
  go_enter Tryd.func59, Tryd.ntmps59
  go_wp2
  all_goals (go_ret; exact ⟨ret_i64 (by simp [cmpB, *] <;> (repeat' split) <;> omega), (by repeat (first | exact Below.refl _ _ | refine Below.drew ?_ | refine Below.alloc ?_ (by simp <;> omega) _ | refine Below.setCell ?_ (by simp <;> omega) _))⟩)
theorem cmpU8_any (a b : Int) (w : World) : Calls Tryd.prog 106 #[.int .u8 a, .int .u8 b] w fun e w' => e = .returned (.int .i64 (cmpI a b)) ∧ w = w' := by
  go_enter Tryd.func106, Tryd.ntmps106
  go_wp2
  all_goals (go_ret; exact ⟨ret_i64 (by simp [cmpI, *] <;> (repeat' split) <;> omega), rfl⟩)
theorem cmpI16_any (a b : Int) (w : World) : Calls Tryd.prog 107 #[.int .i16 a, .int .i16 b] w fun e w' => e = .returned (.int .i64 (cmpI a b)) ∧ w = w' := by
  go_enter Tryd.func107, Tryd.ntmps107
  go_wp2
  all_goals (go_ret; exact ⟨ret_i64 (by simp [cmpI, *] <;> (repeat' split) <;> omega), rfl⟩)
def orI (x y : Int) : Int := if x = 0 then y else x
theorem orI_cmp (k y k' y' : Int) : orI (cmpI k k') (cmpI y y') = cmpB (k, y) (k', y') := by
  simp only [orI, cmpI, cmpB]
  (repeat' split) <;> omega
theorem or_any (B : Nat) (x y : Int) (c : Nat) (w : World) (h0 : w.cell? ⟨B, 0, none⟩ = some (.int .i64 x)) (h1 : w.cell? ⟨B, 1, none⟩ = some (.int .i64 y)) :
    Calls Tryd.prog 105 #[.slice (some ⟨B, 0, none⟩) 2 c] w fun e w' => e = .returned (.int .i64 (orI x y)) ∧ w = w' := by
  by_cases hx : x = 0
  · by_cases hy : y = 0
    · subst hx; subst hy
      go_enter Tryd.func105, Tryd.ntmps105
      go_wp2
      refine wp_loop_rounds 3 ?_
      rw [rounds_succ]
      go_wp2
      rw [rounds_succ]
      go_wp2
      rw [rounds_succ]
      go_wp2
      go_ret
      exact ⟨ret_i64 (by simp [orI]), rfl⟩
    · subst hx
      have hy' : (y != 0) = true := by simpa using hy
      have hy2 : (y == 0) = false := by simpa using hy
      go_enter Tryd.func105, Tryd.ntmps105
      go_wp2
      refine wp_loop_rounds 2 ?_
      rw [rounds_succ]
      go_wp2
      rw [rounds_succ]
      go_wp2
      go_ret
      exact ⟨ret_i64 (by simp [orI]), rfl⟩
  · have hx' : (x != 0) = true := by simpa using hx
    have hx2 : (x == 0) = false := by simpa using hx
    go_enter Tryd.func105, Tryd.ntmps105
    go_wp2
    refine wp_loop_rounds 1 ?_
    rw [rounds_succ]
    go_wp2
    go_ret
    exact ⟨ret_i64 (by simp [orI, hx]), rfl⟩

set_option maxHeartbeats 2000000 in
theorem cmpB_any (k y k' y' : Int) (w : World) : Calls Tryd.prog 88 #[.agg #[.int .u8 k, .int .i16 y], .agg #[.int .u8 k', .int .i16 y']] w fun e w' => e = .returned (.int .i64 (cmpB (k, y) (k', y'))) ∧ Below w.heap.size w w' := by
  go_enter Tryd.func88, Tryd.ntmps88
  go_wp2_with fail
  obtain ⟨W0, hW0⟩ : ∃ W0, (w.alloc (.cells #[.int .u8 k, .int .i16 y] 26)).alloc (.cells #[.int .u8 k', .int .i16 y'] 26) = W0 := ⟨_, rfl⟩
  have a0 : W0.cell? ⟨w.heap.size, 0, none⟩ = some (.int .u8 k) := by rw [← hW0]; simp
  have a1 : W0.cell? ⟨w.heap.size, 1, none⟩ = some (.int .i16 y) := by rw [← hW0]; simp
  have b0 : W0.cell? ⟨w.heap.size + 1, 0, none⟩ = some (.int .u8 k') := by rw [← hW0]; simp
  have b1 : W0.cell? ⟨w.heap.size + 1, 1, none⟩ = some (.int .i16 y') := by rw [← hW0]; simp
  have hB : Below w.heap.size w W0 := by rw [← hW0]; exact (by repeat (first | exact Below.refl _ _ | refine Below.drew ?_ | refine Below.alloc ?_ (by simp <;> omega) _ | refine Below.setCell ?_ (by simp <;> omega) _))
  rw [hW0]
  clear hW0
  have HB := Lib.hid hB
  clear hB
  go_region_held3 (fun w' => w'.cell? ⟨w.heap.size, 0, none⟩ = some (.int .u8 k) ∧ w'.cell? ⟨w.heap.size, 1, none⟩ = some (.int .i16 y) ∧ w'.cell? ⟨w.heap.size + 1, 0, none⟩ = some (.int .u8 k') ∧ w'.cell? ⟨w.heap.size + 1, 1, none⟩ = some (.int .i16 y')) (go_keep)
    (first
      | (go_at_call 106; refine (cmpU8_any _ _ _).mono ?_; rintro e w' ⟨rfl, rfl⟩)
      | (go_at_call 107; refine (cmpI16_any _ _ _).mono ?_; rintro e w' ⟨rfl, rfl⟩)
      | (go_at_call 105; refine (or_any _ (cmpI k k') (cmpI y y') 2 _ ?_ ?_).mono ?_; (simp); (simp); rintro e w' ⟨rfl, rfl⟩))
  go_wp2
  go_ret
  exact ⟨ret_i64 (orI_cmp _ _ _ _), (HB.out.alloc HB.out.size _).drew⟩

end Go.Proofs.YtcdhmlalpjcidaaDoor
