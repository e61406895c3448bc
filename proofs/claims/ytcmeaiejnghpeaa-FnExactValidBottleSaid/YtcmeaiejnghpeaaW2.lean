/-
  FnExactValidBottle: for every bottle the law returns true, and its argument reads as before. No condition.
-/
import Derived.Test.YtcmeaiejnghpeaaRows
import Derived.Test.YtcmeaiejnghpeaaFrame
import Derived.Test.YtcmeaiejnghpeaaL
import Derived.WalkKit
namespace Go.Proofs.Ytcmeaiejnghpeaa
open Go.ChangeShapes Go.WideShapes Go.ChangeAt Go.RowKit

theorem vbLaw_any (k y : Int) (hk : 0 ≤ k ∧ k ≤ 255) (hy : -32768 ≤ y ∧ y ≤ 32767) (w : World) : Calls Try.prog 4 #[.agg #[.int .u8 k, .int .i16 y]] w (Good w) := by
  go_enter Try.func4, Try.ntmps4
  go_wp2_with fail
  refine (toBottle_any k y _).mono ?_
  rintro e w1 ⟨rfl, hb1⟩
  go_wp2_with fail
  refine (specValidBottle_any k y hk hy _).mono ?_
  rintro e w2 ⟨rfl, hb2⟩
  have c0 : w2.cell? ⟨w.heap.size, 0, none⟩ = some (.int .u8 k) := (((CBlk.new w 26 [(k, y)]).below hb1 (by simp)).below hb2 (by have := hb1.size; simp at this; omega)).kind 0 (by simp)
  have c1 : w2.cell? ⟨w.heap.size, 1, none⟩ = some (.int .i16 y) := (((CBlk.new w 26 [(k, y)]).below hb1 (by simp)).below hb2 (by have := hb1.size; simp at this; omega)).year 0 (by simp)
  go_wp2_with fail
  refine (toBottle_any k y _).mono ?_
  rintro e w3 ⟨rfl, hb3⟩
  go_wp2_with fail
  refine (validBottle_any k y _).mono ?_
  rintro e w4 ⟨rfl, hb4⟩
  cases hv : vB (k, y)
  all_goals
    go_wp2
    go_ret
    exact ⟨rfl, by
      have s0 : w.heap.size ≤ (w.alloc (.cells #[.int .u8 k, .int .i16 y] 26)).heap.size := by simp
      have h1 := (Below.refl w.heap.size w).alloc (Nat.le_refl _) (.cells #[.int .u8 k, .int .i16 y] 26)
      have g1 := h1.trans (hb1.mono h1.size)
      have g2 := g1.trans (hb2.mono g1.size)
      have g3 := g2.trans (hb3.mono g2.size)
      exact g3.trans (hb4.mono g3.size)⟩

set_option maxRecDepth 100000 in
theorem vbLaw_lifted (os : Os) (started : os.Started) (H : Type) (enc : TypeId × Value → H) :
    ReturnsInHanded {} Try.checked os 4 .any (Rows.fnExactValidBottleSpec.pre6 enc Try.prog Try.f4 Rows.fnExactValidBottleRow.domain false) (Rows.fnExactValidBottleSpec.post enc Try.prog Try.f4 false true false false) := by
  refine law_lift (C := Try.checked) 1 Try.own started (by kernel_rfl) Try.func4
    (ChangeSpec.witness6 (enc := enc) (C := Try.checked) false ⟨#[], #[.agg #[.int .u8 0, .int .i16 0]], []⟩ 8 (by kernel_rfl) (by kernel_rfl) (by kernel_rfl) (by kernel_rfl))
    Try.laidOut rfl (by kernel_rfl) Try.underlying4 (by kernel_rfl) (by kernel_rfl) (fun ds h => by match ds, h with | [d], _ => rfl) ?_
  intro W base args ds p hval hA
  rw [Try.params4] at hA hval
  obtain ⟨v0, d0, rfl, rfl, h0⟩ := trodAll_one hA
  obtain ⟨⟨k, y⟩, ⟨a1, a2, a3, a4⟩, rfl⟩ := open_bottle Try.underlying26 Try.underlying5 Try.underlying24 (by kernel_rfl) (by kernel_rfl) (hval 0 26 v0 rfl rfl) h0
  exact vbLaw_any k y ⟨a1, a2⟩ ⟨a3, a4⟩ W

theorem validBottle_holds : Rows.FnExactValidBottleSaid :=
  OpenClaim.holds_of_wide 4 Try.f4 rfl rfl rfl rfl rfl rfl rfl ⟨rfl, rfl, rfl, rfl, rfl⟩ rfl rfl rfl rfl rfl (by kernel_rfl) Try.func4 (by kernel_rfl)
    (of_decide_eq_true (by kernel_rfl)) (by unfold Func.isWrapper; rw [if_neg (of_decide_eq_false (by kernel_rfl))]; exact ⟨rfl, rfl⟩)
    (fun os started H enc _ => vbLaw_lifted os started H enc)
#print axioms validBottle_holds
end Go.Proofs.Ytcmeaiejnghpeaa
