/-
  Meetings: the program's days.at, days.next and the loop of meetingDay. Condition: valid walkers, a day from 0 to 10000; the sentinel errors lie as the row lists them.
-/
import Derived.Test.YtlfamfdgphhbcabDoorYk
import Derived.Test.YtlfamfdgphhbcabDoorYu
import Derived.Test.YtlfamfdgphhbcabDoorEo
namespace Go.Proofs.YtlfamfdgphhbcabDoor
open Go.ChangeShapes Go.WideShapes Go.ChangeAt Go.RowKit Go.Deep

theorem mul_in {a b : Int} {A B : Int} (ha : 0 ≤ a ∧ a ≤ A) (hb : 0 ≤ b ∧ b ≤ B) : 0 ≤ a * b ∧ a * b ≤ A * B :=
  ⟨Int.mul_nonneg ha.1 hb.1, Int.le_trans (Int.mul_le_mul_of_nonneg_right ha.2 hb.1) (Int.mul_le_mul_of_nonneg_left hb.2 (Int.le_trans ha.1 ha.2))⟩
set_option maxHeartbeats 1000000 in
theorem daysAt_any (fi ev : Int) (hf : 0 ≤ fi ∧ fi ≤ 10000) (he : 1 ≤ ev ∧ ev ≤ 100) (n : Int) (hn : 0 ≤ n ∧ n ≤ 20001) (w : World) :
    Calls Tryd.prog 85 #[.agg #[.int .i64 fi, .int .i64 ev], .int .i64 n] w fun e w' => e = .returned (.int .i64 (fi + n * ev)) ∧ Below w.heap.size w w' := by
  obtain ⟨f0, f1⟩ := hf
  obtain ⟨p0, p1⟩ := mul_in hn (⟨by omega, he.2⟩ : 0 ≤ ev ∧ ev ≤ 100)
  obtain ⟨p, hp⟩ : ∃ p, n * ev = p := ⟨_, rfl⟩
  rw [hp] at p0 p1 ⊢
  have u1 : IntKind.i64.wrap p = p := IntWalk.i64_in _ ⟨by omega, by omega⟩
  have u2 : wrap64 p = p := IntWalk.wrap64_in _ ⟨by omega, by omega⟩
  have u3 : IntKind.i64.wrap (fi + p) = fi + p := IntWalk.i64_in _ ⟨by omega, by omega⟩
  have u4 : wrap64 (fi + p) = fi + p := IntWalk.wrap64_in _ ⟨by omega, by omega⟩
  go_enter Tryd.func85, Tryd.ntmps85
  go_wp2
  go_ret
  exact ⟨rfl, (by repeat (first | exact Below.refl _ _ | refine Below.drew ?_ | refine Below.alloc ?_ (by simp <;> omega) _ | refine Below.setCell ?_ (by simp <;> omega) _))⟩
theorem keptN {W0 w1 w2 : World} {B : Nat} {x y : Int} (hB : B < W0.heap.size) (h : Below W0.heap.size W0 w1) (hb : Below w1.heap.size w1 w2)
    (a0 : w1.cell? ⟨B, 0, none⟩ = some (.int .i64 x)) (a1 : w1.cell? ⟨B, 1, none⟩ = some (.int .i64 y)) :
    w2.cell? ⟨B, 0, none⟩ = some (.int .i64 x) ∧ w2.cell? ⟨B, 1, none⟩ = some (.int .i64 y) ∧ Below W0.heap.size W0 w2 := by
  have hs := h.size
  exact ⟨(hb.cell (p := ⟨B, 0, none⟩) (by show B < _; omega)).trans a0, (hb.cell (p := ⟨B, 1, none⟩) (by show B < _; omega)).trans a1, h.trans (hb.mono hs)⟩
theorem unN_in {fi ev d : Int} (hf : 0 ≤ fi) (he : 1 ≤ ev) (hd : -1 ≤ d ∧ d ≤ 20000) : 0 ≤ (if d < fi then 0 else (d - fi) / ev + 1) ∧ (if d < fi then 0 else (d - fi) / ev + 1) ≤ 20001 := by
  split
  · omega
  · have h1 : 0 ≤ d - fi := by omega
    have h2 := Int.ediv_nonneg h1 (by omega : 0 ≤ ev)
    have h3 := Int.ediv_le_self ev h1
    omega
end Go.Proofs.YtlfamfdgphhbcabDoor
