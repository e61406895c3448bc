/-
  The contracts of ValidRow, of the model and of the program, and of what they call; isWithin. Condition: the row reads as numbers of eight bits.
-/
import Derived.Test.YtcdoablhnlkkmaaDoorYr
namespace Go.Proofs.YtcdoablhnlkkmaaDoor
open Go.ChangeShapes Go.WideShapes Go.ChangeAt Go.RowKit Go.Deep

def AllTo {T : Type} (p : T → Bool) (xs : List T) (k : Nat) : Prop := ∀ (j : Nat) (x : T), j < k → xs[j]? = some x → p x = true
theorem AllTo.zero {T : Type} (p : T → Bool) (xs : List T) : AllTo p xs 0 := fun j x h => absurd h (Nat.not_lt_zero _)
theorem AllTo.step {T : Type} {p : T → Bool} {xs : List T} {k : Nat} (h : AllTo p xs k) {x : T} (hx : xs[k]? = some x) (hp : p x = true) : AllTo p xs (k + 1) := fun j y hj hy => by
  by_cases e : j = k
  · subst e
    obtain rfl := Option.some.inj (hx.symm.trans hy)
    exact hp
  · exact h j y (by omega) hy
theorem AllTo.all {T : Type} {p : T → Bool} {xs : List T} (h : AllTo p xs xs.length) : xs.all p = true := by
  rw [List.all_eq_true]
  intro x hx
  obtain ⟨i, hi, rfl⟩ := List.mem_iff_getElem.1 hx
  exact h i _ hi (List.getElem?_eq_getElem hi)
theorem all_no {T : Type} {p : T → Bool} {xs : List T} {k : Nat} {x : T} (hx : xs[k]? = some x) (hp : p x = false) : xs.all p = false := by
  rw [List.all_eq_false]
  exact ⟨x, List.mem_of_getElem? hx, by simp [hp]⟩
theorem yOk_no {r : List Int} {k : Nat} {x : Int} (hx : r[k]? = some x) (hp : 7 < x) : yOk r = false := by
  rw [yOk, all_no hx (by simp; omega)]; rfl
theorem yOk_fine {r : List Int} (h : r.all (fun x => decide (x ≤ 7)) = true) : yOk r = (decide (1 ≤ (r.length : Int)) && decide ((r.length : Int) ≤ 60)) := by
  rw [yOk, h, Bool.true_and]
  congr 1 <;> rw [decide_eq_decide] <;> omega

theorem isWithin_any (n lo hi : Int) (w : World) : Calls Tryd.prog 58 #[.int .i64 n, .int .i64 lo, .int .i64 hi] w fun e w' => e = .returned (.bool (decide (lo ≤ n) && decide (n ≤ hi))) ∧ w = w' := by
  go_enter Tryd.func58, Tryd.ntmps58
  go_wp2
  all_goals (go_ret; exact ⟨ret_bool (by simp [*] <;> omega), rfl⟩)
end Go.Proofs.YtcdoablhnlkkmaaDoor
