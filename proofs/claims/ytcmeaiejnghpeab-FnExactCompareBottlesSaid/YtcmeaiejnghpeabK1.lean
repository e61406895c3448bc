/-
  FnExactCompareBottles: for every two bottles the law returns true, and its arguments read as before. No condition.
-/
import Derived.Test.YtcmeaiejnghpeabRows
import Derived.Test.YtcmeaiejnghpeabFrame
import Derived.Test.YtcmeaiejnghpeabLT
import Derived.WalkKit
import Derived.Deep.RegionHeld3
import Derived.Lib.Hide
namespace Go.Proofs.Ytcmeaiejnghpeab
open Go.ChangeShapes Go.WideShapes Go.ChangeAt Go.RowKit

def cmpI (a b : Int) : Int := if a < b then -1 else if b < a then 1 else 0
def cmpB (a b : Bot) : Int := if a.1 < b.1 then -1 else if b.1 < a.1 then 1 else if a.2 < b.2 then -1 else if b.2 < a.2 then 1 else 0
theorem ret_i64 {a b : Int} (h : a = b) : Ending.returned (.int .i64 a) = .returned (.int .i64 b) := by rw [h]
theorem specCmp_any (k y k' y' : Int) (w : World) : Calls Try.prog 4 #[.agg #[.int .u8 k, .int .i16 y], .agg #[.int .u8 k', .int .i16 y']] w fun e w' => e = .returned (.int .i64 (cmpB (k, y) (k', y'))) ∧ Below w.heap.size w w' := by
  go_enter Try.func4, Try.ntmps4
  go_wp2
  all_goals (go_ret; exact ⟨ret_i64 (by simp [cmpB, *] <;> (repeat' split) <;> omega), (by repeat (first | exact Below.refl _ _ | refine Below.drew ?_ | refine Below.alloc ?_ (by simp <;> omega) _ | refine Below.setCell ?_ (by simp <;> omega) _))⟩)
theorem cmpU8_any (a b : Int) (w : World) : Calls Try.prog 8 #[.int .u8 a, .int .u8 b] w fun e w' => e = .returned (.int .i64 (cmpI a b)) ∧ w = w' := by
  go_enter Try.func8, Try.ntmps8
  go_wp2
  all_goals (go_ret; exact ⟨ret_i64 (by simp [cmpI, *] <;> (repeat' split) <;> omega), rfl⟩)
theorem cmpI16_any (a b : Int) (w : World) : Calls Try.prog 9 #[.int .i16 a, .int .i16 b] w fun e w' => e = .returned (.int .i64 (cmpI a b)) ∧ w = w' := by
  go_enter Try.func9, Try.ntmps9
  go_wp2
  all_goals (go_ret; exact ⟨ret_i64 (by simp [cmpI, *] <;> (repeat' split) <;> omega), rfl⟩)
def orI (x y : Int) : Int := if x = 0 then y else x
theorem orI_cmp (k y k' y' : Int) : orI (cmpI k k') (cmpI y y') = cmpB (k, y) (k', y') := by
  simp only [orI, cmpI, cmpB]
  (repeat' split) <;> omega
theorem or_any (B : Nat) (x y : Int) (c : Nat) (w : World) (h0 : w.cell? ⟨B, 0, none⟩ = some (.int .i64 x)) (h1 : w.cell? ⟨B, 1, none⟩ = some (.int .i64 y)) :
    Calls Try.prog 7 #[.slice (some ⟨B, 0, none⟩) 2 c] w fun e w' => e = .returned (.int .i64 (orI x y)) ∧ w = w' := by
  by_cases hx : x = 0
  · by_cases hy : y = 0
    · subst hx; subst hy
      go_enter Try.func7, Try.ntmps7
      go_wp2
      refine wp_loop_rounds 3 ?_
      rw [rounds_succ]
      go_wp2
      rw [rounds_succ]
      go_wp2
      rw [rounds_succ]
      go_wp2
      go_ret
      exact ⟨ret_i64 (by simp [orI]), rfl⟩
    · subst hx
      have hy' : (y != 0) = true := by simpa using hy
      have hy2 : (y == 0) = false := by simpa using hy
      go_enter Try.func7, Try.ntmps7
      go_wp2
      refine wp_loop_rounds 2 ?_
      rw [rounds_succ]
      go_wp2
      rw [rounds_succ]
      go_wp2
      go_ret
      exact ⟨ret_i64 (by simp [orI]), rfl⟩
  · have hx' : (x != 0) = true := by simpa using hx
    have hx2 : (x == 0) = false := by simpa using hx
    go_enter Try.func7, Try.ntmps7
    go_wp2
    refine wp_loop_rounds 1 ?_
    rw [rounds_succ]
    go_wp2
    go_ret
    exact ⟨ret_i64 (by simp [orI, hx]), rfl⟩

set_option maxHeartbeats 2000000 in
theorem cmpB_any (k y k' y' : Int) (w : World) : Calls Try.prog 6 #[.agg #[.int .u8 k, .int .i16 y], .agg #[.int .u8 k', .int .i16 y']] w fun e w' => e = .returned (.int .i64 (cmpB (k, y) (k', y'))) ∧ Below w.heap.size w w' := by
  go_enter Try.func6, Try.ntmps6
  go_wp2_with fail
  obtain ⟨W0, hW0⟩ : ∃ W0, (w.alloc (.cells #[.int .u8 k, .int .i16 y] 26)).alloc (.cells #[.int .u8 k', .int .i16 y'] 26) = W0 := ⟨_, rfl⟩
  have a0 : W0.cell? ⟨w.heap.size, 0, none⟩ = some (.int .u8 k) := by rw [← hW0]; simp
  have a1 : W0.cell? ⟨w.heap.size, 1, none⟩ = some (.int .i16 y) := by rw [← hW0]; simp
  have b0 : W0.cell? ⟨w.heap.size + 1, 0, none⟩ = some (.int .u8 k') := by rw [← hW0]; simp
  have b1 : W0.cell? ⟨w.heap.size + 1, 1, none⟩ = some (.int .i16 y') := by rw [← hW0]; simp
  have hB : Below w.heap.size w W0 := by rw [← hW0]; exact (by repeat (first | exact Below.refl _ _ | refine Below.drew ?_ | refine Below.alloc ?_ (by simp <;> omega) _ | refine Below.setCell ?_ (by simp <;> omega) _))
  rw [hW0]
  clear hW0
  have HB := Lib.hid hB
  clear hB
  go_region_held3 (fun w' => w'.cell? ⟨w.heap.size, 0, none⟩ = some (.int .u8 k) ∧ w'.cell? ⟨w.heap.size, 1, none⟩ = some (.int .i16 y) ∧ w'.cell? ⟨w.heap.size + 1, 0, none⟩ = some (.int .u8 k') ∧ w'.cell? ⟨w.heap.size + 1, 1, none⟩ = some (.int .i16 y')) (go_keep)
    (first
      | (go_at_call 8; refine (cmpU8_any _ _ _).mono ?_; rintro e w' ⟨rfl, rfl⟩)
      | (go_at_call 9; refine (cmpI16_any _ _ _).mono ?_; rintro e w' ⟨rfl, rfl⟩)
      | (go_at_call 7; refine (or_any _ (cmpI k k') (cmpI y y') 2 _ ?_ ?_).mono ?_; (simp); (simp); rintro e w' ⟨rfl, rfl⟩))
  go_wp2
  go_ret
  exact ⟨ret_i64 (orI_cmp _ _ _ _), (HB.out.alloc HB.out.size _).drew⟩

/-- What the law's walk keeps: its two boxes, and all that lay. -/
theorem kept4 {W0 w1 w2 : World} {B : Nat} {k y k' y' : Int} (hB : B + 1 < W0.heap.size) (h : Below W0.heap.size W0 w1) (hb : Below w1.heap.size w1 w2)
    (a0 : w1.cell? ⟨B, 0, none⟩ = some (.int .u8 k)) (a1 : w1.cell? ⟨B, 1, none⟩ = some (.int .i16 y)) (b0 : w1.cell? ⟨B + 1, 0, none⟩ = some (.int .u8 k')) (b1 : w1.cell? ⟨B + 1, 1, none⟩ = some (.int .i16 y')) :
    w2.cell? ⟨B, 0, none⟩ = some (.int .u8 k) ∧ w2.cell? ⟨B, 1, none⟩ = some (.int .i16 y) ∧ w2.cell? ⟨B + 1, 0, none⟩ = some (.int .u8 k') ∧ w2.cell? ⟨B + 1, 1, none⟩ = some (.int .i16 y') ∧ Below W0.heap.size W0 w2 := by
  have hs := h.size
  exact ⟨(hb.cell (p := ⟨B, 0, none⟩) (by show B < _; omega)).trans a0, (hb.cell (p := ⟨B, 1, none⟩) (by show B < _; omega)).trans a1, (hb.cell (p := ⟨B + 1, 0, none⟩) (by show B + 1 < _; omega)).trans b0,
    (hb.cell (p := ⟨B + 1, 1, none⟩) (by show B + 1 < _; omega)).trans b1, h.trans (hb.mono hs)⟩

set_option maxHeartbeats 4000000 in
theorem cmpLaw_any (k y k' y' : Int) (w : World) : Calls Try.prog 3 #[.agg #[.int .u8 k, .int .i16 y], .agg #[.int .u8 k', .int .i16 y']] w (Good w) := by
  go_enter Try.func3, Try.ntmps3
  go_wp2_with fail
  obtain ⟨W0, hW0⟩ : ∃ W0, (w.alloc (.cells #[.int .u8 k, .int .i16 y] 24)).alloc (.cells #[.int .u8 k', .int .i16 y'] 24) = W0 := ⟨_, rfl⟩
  have a0 : W0.cell? ⟨w.heap.size, 0, none⟩ = some (.int .u8 k) := by rw [← hW0]; simp
  have a1 : W0.cell? ⟨w.heap.size, 1, none⟩ = some (.int .i16 y) := by rw [← hW0]; simp
  have b0 : W0.cell? ⟨w.heap.size + 1, 0, none⟩ = some (.int .u8 k') := by rw [← hW0]; simp
  have b1 : W0.cell? ⟨w.heap.size + 1, 1, none⟩ = some (.int .i16 y') := by rw [← hW0]; simp
  have hsz : w.heap.size + 1 < W0.heap.size := by rw [← hW0]; simp
  have hB : Below w.heap.size w W0 := by rw [← hW0]; exact (by repeat (first | exact Below.refl _ _ | refine Below.drew ?_ | refine Below.alloc ?_ (by simp <;> omega) _ | refine Below.setCell ?_ (by simp <;> omega) _))
  rw [hW0]
  clear hW0
  have HB := Lib.hid hB
  clear hB
  have hs0 : Below W0.heap.size W0 W0 := Below.refl _ _
  go_region_held3 (fun w' => w'.cell? ⟨w.heap.size, 0, none⟩ = some (.int .u8 k) ∧ w'.cell? ⟨w.heap.size, 1, none⟩ = some (.int .i16 y) ∧ w'.cell? ⟨w.heap.size + 1, 0, none⟩ = some (.int .u8 k') ∧ w'.cell? ⟨w.heap.size + 1, 1, none⟩ = some (.int .i16 y') ∧ Below W0.heap.size W0 w') ((refine ⟨?_, ?_, ?_, ?_, ?_⟩ <;> (first | assumption | exact Below.drew ‹_› | (simp [*]; done))))
    (first
      | (go_at_call 5; refine (toBottle_any _ _ _).mono ?_; rintro e w2 ⟨rfl, hb⟩; obtain ⟨r0, r1, r2, r3, r4⟩ := kept4 hsz (by first | assumption | exact Below.drew (by assumption)) hb (by assumption) (by assumption) (by assumption) (by assumption))
      | (go_at_call 4; refine (specCmp_any _ _ _ _ _).mono ?_; rintro e w2 ⟨rfl, hb⟩; obtain ⟨r0, r1, r2, r3, r4⟩ := kept4 hsz (by first | assumption | exact Below.drew (by assumption)) hb (by assumption) (by assumption) (by assumption) (by assumption)))
  clear hb
  go_wp2
  go_region_held3 (fun w' => w'.cell? ⟨w.heap.size, 0, none⟩ = some (.int .u8 k) ∧ w'.cell? ⟨w.heap.size, 1, none⟩ = some (.int .i16 y) ∧ w'.cell? ⟨w.heap.size + 1, 0, none⟩ = some (.int .u8 k') ∧ w'.cell? ⟨w.heap.size + 1, 1, none⟩ = some (.int .i16 y') ∧ Below W0.heap.size W0 w') ((refine ⟨?_, ?_, ?_, ?_, ?_⟩ <;> (first | assumption | exact Below.drew ‹_› | (simp [*]; done))))
    (first
      | (go_at_call 5; refine (toBottle_any _ _ _).mono ?_; rintro e w2 ⟨rfl, hb⟩; obtain ⟨r0, r1, r2, r3, r4⟩ := kept4 hsz (by first | assumption | exact Below.drew (by assumption)) hb (by assumption) (by assumption) (by assumption) (by assumption))
      | (go_at_call 6; refine (cmpB_any _ _ _ _ _).mono ?_; rintro e w2 ⟨rfl, hb⟩; obtain ⟨r0, r1, r2, r3, r4⟩ := kept4 hsz (by first | assumption | exact Below.drew (by assumption)) hb (by assumption) (by assumption) (by assumption) (by assumption)))
  go_wp2
  go_ret
  refine ⟨rfl, HB.out.trans (Below.mono (B := W0.heap.size) ?_ HB.out.size)⟩
  assumption

set_option maxRecDepth 100000 in
theorem cmpLaw_lifted (os : Os) (started : os.Started) (H : Type) (enc : TypeId × Value → H) :
    ReturnsInHanded {} Try.checked os 3 .any (Rows.fnExactCompareBottlesSpec.pre6 enc Try.prog Try.f3 Rows.fnExactCompareBottlesRow.domain false) (Rows.fnExactCompareBottlesSpec.post enc Try.prog Try.f3 false true false false) := by
  refine law_lift (C := Try.checked) 2 Try.own started (by kernel_rfl) Try.func3
    (ChangeSpec.witness6 (enc := enc) (C := Try.checked) false ⟨#[], #[.agg #[.int .u8 0, .int .i16 0], .agg #[.int .u8 0, .int .i16 0]], []⟩ 8 (by kernel_rfl) (by kernel_rfl) (by kernel_rfl) (by kernel_rfl))
    Try.laidOut rfl (by kernel_rfl) Try.underlying4 (by kernel_rfl) (by kernel_rfl) (fun ds h => by match ds, h with | [d1, d2], _ => rfl) ?_
  intro W base args ds p hval hA
  rw [Try.params3] at hA hval
  obtain ⟨v0, v1, d0, d1, p0, p1, rfl, rfl, rfl, h0, h1⟩ := trodAll_two hA
  obtain ⟨⟨k, y⟩, ⟨a1, a2, a3, a4⟩, rfl⟩ := open_bottle Try.underlying24 Try.underlying5 Try.underlying22 (by kernel_rfl) (by kernel_rfl) (hval 0 24 v0 rfl rfl) h0
  obtain ⟨⟨k', y'⟩, ⟨b1, b2, b3, b4⟩, rfl⟩ := open_bottle Try.underlying24 Try.underlying5 Try.underlying22 (by kernel_rfl) (by kernel_rfl) (hval 1 24 v1 rfl rfl) h1
  exact cmpLaw_any k y k' y' W

theorem compareBottles_holds : Rows.FnExactCompareBottlesSaid :=
  OpenClaim.holds_of_wide 3 Try.f3 rfl rfl rfl rfl rfl rfl rfl ⟨rfl, rfl, rfl, rfl, rfl⟩ rfl rfl rfl rfl rfl (by kernel_rfl) Try.func3 (by kernel_rfl)
    (of_decide_eq_true (by kernel_rfl)) (by unfold Func.isWrapper; rw [if_neg (of_decide_eq_false (by kernel_rfl))]; exact ⟨rfl, rfl⟩)
    (fun os started H enc _ => cmpLaw_lifted os started H enc)
#print axioms compareBottles_holds
end Go.Proofs.Ytcmeaiejnghpeab
