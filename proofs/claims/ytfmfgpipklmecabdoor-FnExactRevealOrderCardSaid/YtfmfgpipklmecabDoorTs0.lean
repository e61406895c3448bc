/-
  Lists of numbers compared: the contracts of l00Same and slices.Equal. No condition.
-/
import Derived.Test.YtfmfgpipklmecabDoorLi
namespace Go.Proofs.YtfmfgpipklmecabDoor
open Go.ChangeShapes Go.WideShapes Go.ChangeAt Go.RowKit Go.Deep

def SmTo {T : Type} (xs ys : List T) (k : Nat) : Prop := ∀ j : Nat, j < k → xs[j]? = ys[j]?
theorem SmTo.zero {T : Type} (xs ys : List T) : SmTo xs ys 0 := fun j h => absurd h (Nat.not_lt_zero _)
theorem SmTo.step {T : Type} {xs ys : List T} {k : Nat} (h : SmTo xs ys k) {x y : T} (hx : xs[k]? = some x) (hy : ys[k]? = some y) (e : x = y) : SmTo xs ys (k + 1) := fun j hj => by
  by_cases ej : j = k
  · subst ej; rw [hx, hy, e]
  · exact h j (by omega)
theorem SmTo.all {T : Type} {xs ys : List T} (h : SmTo xs ys xs.length) (hl : xs.length = ys.length) : xs = ys := by
  apply List.ext_getElem?
  intro j
  by_cases hj : j < xs.length
  · exact h j hj
  · rw [List.getElem?_eq_none (by omega), List.getElem?_eq_none (by omega)]
theorem sm_no {T : Type} {xs ys : List T} {k : Nat} {x y : T} (hx : xs[k]? = some x) (hy : ys[k]? = some y) (e : x ≠ y) : xs ≠ ys := fun h => by
  subst h; exact e (Option.some.inj (hx.symm.trans hy))
theorem sm_len {T : Type} {xs ys : List T} (h : xs.length ≠ ys.length) : xs ≠ ys := fun e => h (by rw [e])

end Go.Proofs.YtfmfgpipklmecabDoor
