/-
  slices.Sort at few int64: the contracts of cmp.Less, insertionSortOrdered, pdqsortOrdered. Condition: at most 12 numbers, in a block of the call's own.
-/
import Derived.Test.YtfmfgpipklmecabDoorOr0
import Derived.Test.YtfmfgpipklmecabDoorLi
import Derived.Test.YtfmfgpipklmecabDoorOw
import Derived.Deep.RegionHeld3
import Derived.OwnWalk
namespace Go.Proofs.YtfmfgpipklmecabDoor
open Go.ChangeShapes Go.WideShapes Go.ChangeAt Go.RowKit Go.Deep

theorem flat_i (xs : List Int) : xs.flatMap icells = xs.map fun n => Value.int .i64 n := by
  induction xs with
  | nil => rfl
  | cons x xs ih => rw [List.flatMap_cons, ih]; rfl
/-- A block that holds numbers, and may hold more cells behind them. -/
def OI (w : World) (g : Nat) (Z : List Int) (cap : Nat) : Prop := ∃ cur : Array Value, w.heap[g]? = some (.cells cur 2 (0, 0)) ∧ Z.length ≤ cap ∧ cap ≤ maxLen ∧ cur.size = cap * 1 ∧ cur.toList.take (Z.length * 1) = Z.flatMap icells
theorem OI.lt {w : World} {g cap : Nat} {Z : List Int} (h : OI w g Z cap) : g < w.heap.size := by
  obtain ⟨cur, hg, -⟩ := h
  exact (Array.getElem?_eq_some_iff.1 hg).1
theorem OI.cell {w : World} {g cap : Nat} {Z : List Int} (h : OI w g Z cap) {k : Nat} {x : Int} (hk : Z[k]? = some x) : w.cell? ⟨g, k, none⟩ = some (.int .i64 x) := by
  obtain ⟨cur, hg, -, -, -, ht⟩ := h
  rw [cell_of_row w g k cur _ (0, 0) hg]
  have hu : (Z.flatMap icells)[k]? = some (.int .i64 x) := by rw [flat_i, List.getElem?_map, hk]; rfl
  rw [← ht, List.getElem?_take] at hu
  split at hu
  · simpa using hu
  · cases hu
theorem OI.frozen {w : World} {g cap : Nat} {Z : List Int} (h : OI w g Z cap) (j : Nat) : w.frozen? ⟨g, j, none⟩ = false := by
  obtain ⟨cur, hg, -⟩ := h
  simp [World.frozen?, hg]
theorem OI.set {w : World} {g cap : Nat} {Z : List Int} (h : OI w g Z cap) (k : Nat) (x : Int) : OI (w.setCell ⟨g, k, none⟩ (.int .i64 x)) g (Z.set k x) cap := by
  obtain ⟨cur, hg, h2, h3, h4, h5⟩ := h
  refine ⟨cur.setIfInBounds k (.int .i64 x), ?_, by rw [List.length_set]; exact h2, h3, by simp [h4], ?_⟩
  · have hlt := (Array.getElem?_eq_some_iff.1 hg).1
    simp only [World.setCell, Array.getElem?_modify, if_true]
    rw [hg]
    simp
  · rw [Array.toList_setIfInBounds, List.length_set, List.take_set, h5, flat_i, flat_i, List.map_set]
theorem OI.own {w : World} {g cap base : Nat} {Z : List Int} (h : OI w g Z cap) (hb : base ≤ g) : w.ownsRow base 2 1 (.slice (some ⟨g, 0, none⟩) Z.length cap) Z.length (Z.flatMap icells) := by
  obtain ⟨cur, hg, h2, h3, h4, h5⟩ := h
  exact ⟨by rw [flat_i, List.length_map]; omega, .inr ⟨g, cap, cur, rfl, hb, hg, h2, h3, h4, h5⟩⟩
theorem OI.of {w : World} {base : Nat} {v : Value} {Z : List Int} (h : w.ownsRow base 2 1 v Z.length (Z.flatMap icells)) : (v = .slice none 0 0 ∧ Z = []) ∨ ∃ g cap, v = .slice (some ⟨g, 0, none⟩) Z.length cap ∧ base ≤ g ∧ OI w g Z cap := by
  obtain ⟨-, ⟨rfl, h0⟩ | ⟨g, cap, cur, rfl, hb, hg, h2, h3, h4, h5⟩⟩ := h
  · exact .inl ⟨rfl, List.eq_nil_of_length_eq_zero h0⟩
  · exact .inr ⟨g, cap, rfl, hb, cur, hg, h2, h3, h4, h5⟩

set_option maxRecDepth 100000 in
set_option maxHeartbeats 4000000 in
theorem len64_some (n : Nat) (hn : n ≤ 12) (w : World) : Calls Tryd.prog 101 #[.int .u64 n] w fun e w' => (∃ r : Int, e = .returned (.int .i64 r)) ∧ w = w' := by
  have h : n = 0 ∨ n = 1 ∨ n = 2 ∨ n = 3 ∨ n = 4 ∨ n = 5 ∨ n = 6 ∨ n = 7 ∨ n = 8 ∨ n = 9 ∨ n = 10 ∨ n = 11 ∨ n = 12 := by omega
  rcases h with rfl | rfl | rfl | rfl | rfl | rfl | rfl | rfl | rfl | rfl | rfl | rfl | rfl <;>
  (go_enter Tryd.func101, Tryd.ntmps101
   go_wp2
   go_ret
   exact ⟨⟨_, rfl⟩, rfl⟩)
end Go.Proofs.YtfmfgpipklmecabDoor
