/-
  Moves of bottles into free places: what they make of a crate. No program in it.
-/
import Derived.Test.YtaigimdehlclfaaDoorSm
namespace Go.Proofs.YtaigimdehlclfaaDoor
open Go.ChangeShapes Go.WideShapes Go.ChangeAt Go.RowKit Go.Deep

theorem eB_zero {k y : Int} (h : eB (k, y) = true) : k = 0 ∧ y = 0 := by simpa [eB] using h
/-- The code of a move in a crate. -/
def mvC (X : List Bot) (s : Swp) : Int := if canS s = true then (if eB (X.getD s.1.toNat (0, 0)) = true then 6 else if eB (X.getD s.2.toNat (0, 0)) = true then 0 else 4) else 2
theorem mvC_no {X : List Bot} {s : Swp} (h : canS s = false) : mvC X s = 2 := by simp [mvC, h]
theorem mvC_nat {X : List Bot} {i j : Nat} {a b : Bot} (hi : i < 12) (hj : j < 12) (h1 : X[i]? = some a) (h2 : X[j]? = some b) : mvC X ((i : Int), (j : Int)) = if eB a = true then 6 else if eB b = true then 0 else 4 := by
  simp [mvC, canS_of hi hj, h1, h2]
theorem mvC_zero {X : List Bot} {s : Swp} (h : mvC X s = 0) : canS s = true := by
  cases hc : canS s
  · rw [mvC_no hc] at h; cases h
  · rfl
/-- A crate behind a move, or behind one that cannot be. -/
def mvR (X : List Bot) (s : Swp) : List Bot := if mvC X s = 0 then swB X s else X
theorem mvR_no {X : List Bot} {s : Swp} (h : mvC X s ≠ 0) : mvR X s = X := by rw [mvR, if_neg h]
theorem mvR_of {X : List Bot} {s : Swp} (h : mvC X s = 0) : mvR X s = swB X s := by rw [mvR, if_pos h]
theorem mvR_wf {X : List Bot} (h : WfC X) (s : Swp) : WfC (mvR X s) := by
  by_cases h0 : mvC X s = 0
  · rw [mvR_of h0]; exact swB_wf h (mvC_zero h0)
  · rw [mvR_no h0]; exact h
theorem mvR_nat {X : List Bot} {i j : Nat} {a : Bot} (hi : i < 12) (hj : j < 12) (h1 : X[i]? = some a) (ha : eB a = false) {k y : Int} (h2 : X[j]? = some (k, y)) (hb : eB (k, y) = true) : (X.set j a).set i (0, 0) = mvR X ((i : Int), (j : Int)) := by
  have hc : mvC X ((i : Int), (j : Int)) = 0 := by rw [mvC_nat hi hj h1 h2, ha, hb]; rfl
  obtain ⟨rfl, rfl⟩ := eB_zero hb
  rw [mvR_of hc, swB_nat h1 h2, List.set_comm]
  rintro rfl
  rw [h1] at h2
  cases h2
  rw [ha] at hb; cases hb

/-! What is turned in one block alone. -/
theorem gb_refl (w : World) (row : Option Nat) : w.grownBy w row := ⟨rfl, rfl, rfl, Nat.le_refl _, fun _ _ _ => rfl⟩
theorem gb_below {w w1 w2 : World} {row : Option Nat} (h : w.grownBy w1 row) (hb : Below w1.heap.size w1 w2) : w.grownBy w2 row :=
  ⟨hb.os.trans h.os, hb.tape.trans h.tape, hb.output.trans h.output, Nat.le_trans h.size hb.size, fun k hk hr => (hb.block k (Nat.lt_of_lt_of_le hk h.size)).trans (h.block k hk hr)⟩
theorem gb_drew {w w1 : World} {row : Option Nat} (h : w.grownBy w1 row) : w.grownBy w1.drew row := ⟨h.os, h.tape, h.output, h.size, h.block⟩
theorem gb_set {w w1 : World} {B j : Nat} (h : w.grownBy w1 (some B)) (u : Value) : w.grownBy (w1.setCell ⟨B, j, none⟩ u) (some B) :=
  ⟨h.os, h.tape, h.output, by simpa [World.setCell] using h.size, fun k hk hr => (Below.heap_setCell _ _ _ _ (by rintro rfl; exact hr rfl)).trans (h.block k hk hr)⟩
theorem gb_alloc {w w1 : World} {row : Option Nat} (h : w.grownBy w1 row) (o : Obj) : w.grownBy (w1.alloc o) row := gb_below h ((Below.refl _ _).alloc (Nat.le_refl _) o)
theorem CBlk.gb {w w1 : World} {B B' : Nat} {t : TypeId} {X : List Bot} (h : CBlk w B' t X) (hg : w.grownBy w1 (some B)) (hne : B' ≠ B) : CBlk w1 B' t X :=
  (hg.block B' h.lt (fun e => hne (Option.some.inj e))).trans h
end Go.Proofs.YtaigimdehlclfaaDoor
