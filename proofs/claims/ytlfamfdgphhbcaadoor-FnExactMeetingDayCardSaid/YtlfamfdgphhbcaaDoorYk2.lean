/-
  Meetings: the program's days.at, days.next and the loop of meetingDay. Condition: valid walkers, a day from 0 to 10000; the sentinel errors lie as the row lists them.
-/
import Derived.Test.YtlfamfdgphhbcaaDoorYk
import Derived.Test.YtlfamfdgphhbcaaDoorYu
import Derived.Test.YtlfamfdgphhbcaaDoorEo
namespace Go.Proofs.YtlfamfdgphhbcaaDoor
open Go.ChangeShapes Go.WideShapes Go.ChangeAt Go.RowKit Go.Deep

theorem mul_in {a b : Int} {A B : Int} (ha : 0 ≤ a ∧ a ≤ A) (hb : 0 ≤ b ∧ b ≤ B) : 0 ≤ a * b ∧ a * b ≤ A * B :=
  ⟨Int.mul_nonneg ha.1 hb.1, Int.le_trans (Int.mul_le_mul_of_nonneg_right ha.2 hb.1) (Int.mul_le_mul_of_nonneg_left hb.2 (Int.le_trans ha.1 ha.2))⟩
set_option maxHeartbeats 1000000 in
theorem daysAt_any (fi ev : Int) (hf : 0 ≤ fi ∧ fi ≤ 10000) (he : 1 ≤ ev ∧ ev ≤ 100) (n : Int) (hn : 0 ≤ n ∧ n ≤ 20001) (w : World) :
    Calls Tryd.prog 102 #[.agg #[.int .i64 fi, .int .i64 ev], .int .i64 n] w fun e w' => e = .returned (.int .i64 (fi + n * ev)) ∧ Below w.heap.size w w' := by
  obtain ⟨f0, f1⟩ := hf
  obtain ⟨p0, p1⟩ := mul_in hn (⟨by omega, he.2⟩ : 0 ≤ ev ∧ ev ≤ 100)
  obtain ⟨p, hp⟩ : ∃ p, n * ev = p := ⟨_, rfl⟩
  rw [hp] at p0 p1 ⊢
  have u1 : IntKind.i64.wrap p = p := IntWalk.i64_in _ ⟨by omega, by omega⟩
  have u2 : wrap64 p = p := IntWalk.wrap64_in _ ⟨by omega, by omega⟩
  have u3 : IntKind.i64.wrap (fi + p) = fi + p := IntWalk.i64_in _ ⟨by omega, by omega⟩
  have u4 : wrap64 (fi + p) = fi + p := IntWalk.wrap64_in _ ⟨by omega, by omega⟩
  go_enter Tryd.func102, Tryd.ntmps102
  go_wp2
  go_ret
  exact ⟨rfl, (by repeat (first | exact Below.refl _ _ | refine Below.drew ?_ | refine Below.alloc ?_ (by simp <;> omega) _ | refine Below.setCell ?_ (by simp <;> omega) _))⟩
theorem keptN {W0 w1 w2 : World} {B : Nat} {x y : Int} (hB : B < W0.heap.size) (h : Below W0.heap.size W0 w1) (hb : Below w1.heap.size w1 w2)
    (a0 : w1.cell? ⟨B, 0, none⟩ = some (.int .i64 x)) (a1 : w1.cell? ⟨B, 1, none⟩ = some (.int .i64 y)) :
    w2.cell? ⟨B, 0, none⟩ = some (.int .i64 x) ∧ w2.cell? ⟨B, 1, none⟩ = some (.int .i64 y) ∧ Below W0.heap.size W0 w2 := by
  have hs := h.size
  exact ⟨(hb.cell (p := ⟨B, 0, none⟩) (by show B < _; omega)).trans a0, (hb.cell (p := ⟨B, 1, none⟩) (by show B < _; omega)).trans a1, h.trans (hb.mono hs)⟩
theorem unN_in {fi ev d : Int} (hf : 0 ≤ fi) (he : 1 ≤ ev) (hd : -1 ≤ d ∧ d ≤ 20000) : 0 ≤ (if d < fi then 0 else (d - fi) / ev + 1) ∧ (if d < fi then 0 else (d - fi) / ev + 1) ≤ 20001 := by
  split
  · omega
  · have h1 : 0 ≤ d - fi := by omega
    have h2 := Int.ediv_nonneg h1 (by omega : 0 ≤ ev)
    have h3 := Int.ediv_le_self ev h1
    omega
set_option maxHeartbeats 2000000 in
theorem daysNext_any (fi ev : Int) (hf : 0 ≤ fi ∧ fi ≤ 10000) (he : 1 ≤ ev ∧ ev ≤ 100) (d : Int) (hd : 0 ≤ d ∧ d ≤ 20000) (w : World) :
    Calls Tryd.prog 67 #[.agg #[.int .i64 fi, .int .i64 ev], .int .i64 d] w fun e w' => e = .returned (.int .i64 (fi + (if d - 1 < fi then 0 else (d - 1 - fi) / ev + 1) * ev)) ∧ Below w.heap.size w w' := by
  have hu := unN_in hf.1 he.1 (⟨by omega, by omega⟩ : -1 ≤ d - 1 ∧ d - 1 ≤ 20000)
  have hun := until_any fi ev hf he (d - 1) ⟨by omega, by omega⟩
  obtain ⟨u, hu0⟩ : ∃ u : Int, (if d - 1 < fi then 0 else (d - 1 - fi) / ev + 1) = u := ⟨_, rfl⟩
  rw [hu0] at hu hun ⊢
  clear hu0
  have hat := daysAt_any fi ev hf he u hu
  obtain ⟨r, hr⟩ : ∃ r, fi + u * ev = r := ⟨_, rfl⟩
  rw [hr] at hat ⊢
  have HU := Lib.hid hun
  have HA := Lib.hid hat
  clear hr hun hat
  obtain ⟨d0, d1⟩ := hd
  have s1 : IntKind.i64.wrap (d - 1) = d - 1 := IntWalk.i64_in _ ⟨by omega, by omega⟩
  have s2 : wrap64 (d - 1) = d - 1 := IntWalk.wrap64_in _ ⟨by omega, by omega⟩
  go_enter Tryd.func67, Tryd.ntmps67
  go_wp2_with fail
  obtain ⟨W0, hW0⟩ : ∃ W0, w.alloc (.cells #[.int .i64 fi, .int .i64 ev] 67) = W0 := ⟨_, rfl⟩
  have a0 : W0.cell? ⟨w.heap.size, 0, none⟩ = some (.int .i64 fi) := by rw [← hW0]; simp
  have a1 : W0.cell? ⟨w.heap.size, 1, none⟩ = some (.int .i64 ev) := by rw [← hW0]; simp
  have hsz : w.heap.size < W0.heap.size := by rw [← hW0]; simp
  have hB : Below w.heap.size w W0 := by rw [← hW0]; exact (by repeat (first | exact Below.refl _ _ | refine Below.drew ?_ | refine Below.alloc ?_ (by simp <;> omega) _ | refine Below.setCell ?_ (by simp <;> omega) _))
  rw [hW0]
  clear hW0
  have HB := Lib.hid hB
  clear hB
  have hs0 : Below W0.heap.size W0 W0 := Below.refl _ _
  go_region_held3 (fun w' => w'.cell? ⟨w.heap.size, 0, none⟩ = some (.int .i64 fi) ∧ w'.cell? ⟨w.heap.size, 1, none⟩ = some (.int .i64 ev) ∧ Below W0.heap.size W0 w') ((refine ⟨?_, ?_, ?_⟩ <;> (first | assumption | exact Below.drew ‹_› | (simp [*]; done))))
    (first
      | (go_at_call 103; refine (HU.out _).mono ?_; rintro e w2 ⟨rfl, hb⟩; obtain ⟨r0, r1, r2⟩ := keptN hsz (by first | assumption | exact Below.drew (by assumption)) hb (by assumption) (by assumption))
      | (go_at_call 102; refine (HA.out _).mono ?_; rintro e w2 ⟨rfl, hb⟩; obtain ⟨r0, r1, r2⟩ := keptN hsz (by first | assumption | exact Below.drew (by assumption)) hb (by assumption) (by assumption)))
  go_wp2
  go_ret
  refine ⟨rfl, HB.out.trans (Below.mono (B := W0.heap.size) ?_ HB.out.size)⟩
  assumption
end Go.Proofs.YtlfamfdgphhbcaaDoor
