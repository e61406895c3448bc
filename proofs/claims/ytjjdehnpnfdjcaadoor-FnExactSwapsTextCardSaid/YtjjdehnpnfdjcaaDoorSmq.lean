/-
  Swaps of places that can be. No program in it.
-/
import Derived.Test.YtjjdehnpnfdjcaaDoorSw
import Derived.Test.YtjjdehnpnfdjcaaDoorSxq
namespace Go.Proofs.YtjjdehnpnfdjcaaDoor
open Go.ChangeShapes Go.WideShapes Go.ChangeAt Go.RowKit Go.Deep

def plI (i : Int) : Bool := decide (0 ≤ i) && decide (i ≤ 11)
def canS (s : Swp) : Bool := plI s.1 && plI s.2
theorem canS_nat {s : Swp} (h : canS s = true) : ∃ i j : Nat, s = ((i : Int), (j : Int)) ∧ i < 12 ∧ j < 12 := by
  obtain ⟨a, b⟩ := s
  simp only [canS, plI, Bool.and_eq_true, decide_eq_true_eq] at h
  exact ⟨a.toNat, b.toNat, by rw [Int.toNat_of_nonneg h.1.1, Int.toNat_of_nonneg h.2.1], by omega, by omega⟩
def CanTo (xs : List Swp) (k : Nat) : Prop := ∀ j s, j < k → xs[j]? = some s → canS s = true
theorem CanTo.step {xs : List Swp} {k : Nat} (h : CanTo xs k) {s : Swp} (hb : xs[k]? = some s) (ho : canS s = true) : CanTo xs (k + 1) := by
  intro j c hj hc
  by_cases e : j = k
  · subst e; rw [hb] at hc; cases hc; exact ho
  · exact h j c (by omega) hc
theorem CanTo.all {xs : List Swp} (h : CanTo xs xs.length) : xs.all canS = true := by
  rw [List.all_eq_true]
  intro b hb
  obtain ⟨j, hj, rfl⟩ := List.mem_iff_getElem.1 hb
  exact h j _ hj (List.getElem?_eq_getElem hj)
theorem can_no {xs : List Swp} {k : Nat} {s : Swp} (hb : xs[k]? = some s) (ho : canS s = false) : xs.all canS = false := by
  rw [List.all_eq_false]
  exact ⟨s, List.mem_of_getElem? hb, by simp [ho]⟩
end Go.Proofs.YtjjdehnpnfdjcaaDoor
