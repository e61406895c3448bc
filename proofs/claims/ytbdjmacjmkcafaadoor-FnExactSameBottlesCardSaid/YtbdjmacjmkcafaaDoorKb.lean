/-
  The contracts of szCrateS, toCrateS and of eqCrateS at equal arguments. Condition: a list of at most 1048576 crates.
-/
import Derived.Test.YtbdjmacjmkcafaaDoorKa
import Derived.Test.YtbdjmacjmkcafaaDoorW
import Derived.Test.YtbdjmacjmkcafaaDoorFlb
namespace Go.Proofs.YtbdjmacjmkcafaaDoor
open Go.ChangeShapes Go.WideShapes Go.ChangeAt Go.RowKit Go.Deep

/-- What stands between two rounds of toCrateS. -/
def TC2 (xs : List Crt) (w : World) (k : Nat) (X : List Crt) (wr : World) : Prop :=
  X.length = xs.length ∧ (∀ j, j < k → X[j]? = xs[j]?) ∧ Rs wr w.heap.size 30 kcells X ∧ Below w.heap.size w wr
theorem TC2.step {xs : List Crt} {w wr w1 : World} {k : Nat} {X : List Crt} {x : Crt} (h : TC2 xs w k X wr) (hk : xs[k]? = some x) (hb : Below wr.heap.size wr w1) :
    TC2 xs w (k + 1) (X.set k x) (w1.setCells w.heap.size (k * 24) (kcells x).toArray.toList) := by
  obtain ⟨hX, hj, hO, hB⟩ := h
  have hkl := (List.getElem?_eq_some_iff.1 hk).1
  refine ⟨by simp [hX], fun j hjk => ?_, ?_, Below.setCells (hB.trans (hb.mono hB.size)) _ _ _ (Nat.le_refl _)⟩
  · by_cases e : j = k
    · subst e
      rw [List.getElem?_set_self (by omega), hk]
    · rw [List.getElem?_set_ne (by omega)]
      exact hj j (by omega)
  · exact Rs.set_ kcells_length (Blk.keep hO hb) (by omega) x
theorem TC2.same {xs : List Crt} {w : World} {X : List Crt} {wr : World} (h : TC2 xs w xs.length X wr) : X = xs := by
  apply List.ext_getElem?
  intro j
  by_cases hj : j < xs.length
  · exact h.2.1 j hj
  · rw [List.getElem?_eq_none (by rw [h.1]; omega), List.getElem?_eq_none (by omega)]

end Go.Proofs.YtbdjmacjmkcafaaDoor
