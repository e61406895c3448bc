/-
  Numbers that are all within: the contract of checkIndices. Condition: the list reads as told; the sentinel errors lie as the row lists them.
-/
import Derived.Test.YtfmfgpipklmecabDoorHm
import Derived.Test.YtfmfgpipklmecabDoorLi
import Derived.Test.YtfmfgpipklmecabDoorEo
namespace Go.Proofs.YtfmfgpipklmecabDoor
open Go.ChangeShapes Go.WideShapes Go.ChangeAt Go.RowKit Go.Deep

/-- Are all numbers those of parties? -/
def inRI (n : Int) (cr : List Int) : Bool := cr.all fun i => wi 0 (n - 1) i
theorem inRI_no {n : Int} {cr : List Int} {k : Nat} {i : Int} (h : cr[k]? = some i) (hi : ¬ (0 ≤ i ∧ i < n)) : inRI n cr = false := by
  rw [inRI, List.all_eq_false]
  exact ⟨i, List.mem_of_getElem? h, by rw [Bool.not_eq_true, wi_no]; omega⟩
theorem inRI_all {n : Int} {cr : List Int} (h : ∀ j i, j < cr.length → cr[j]? = some i → 0 ≤ i ∧ i < n) : inRI n cr = true := by
  rw [inRI, List.all_eq_true]
  intro i hi
  obtain ⟨j, hj, rfl⟩ := List.mem_iff_getElem.1 hi
  have := h j _ hj (List.getElem?_eq_getElem hj)
  rw [wi_iff]; omega
end Go.Proofs.YtfmfgpipklmecabDoor
