/-
  BestLane: which lane is best; the model's contract of l04Best. Condition: the rack reads as lists of things that are stored, valid.
-/
import Derived.Test.YtmfdgpinohbckaaDoorMg3
namespace Go.Proofs.YtmfdgpinohbckaaDoor
open Go.ChangeShapes Go.WideShapes Go.ChangeAt Go.RowKit Go.Deep

/-- The best of the first lanes: lane, how many are blocked, how many bottles there are. -/
def bstN (T : Option (Nat × Nat × Nat)) (i own len : Nat) : Option (Nat × Nat × Nat) :=
  match T with
  | none => some (i, own, len)
  | some (b, o, n) => if own < o ∨ (own = o ∧ len < n) then some (i, own, len) else some (b, o, n)
def bst (xss : List (List Wnt)) (d : Int) : Nat → Option (Nat × Nat × Nat)
  | 0 => none
  | i + 1 => if (xss.getD i []).length = 6 then bst xss d i else bstN (bst xss d i) i (cntB (xss.getD i []) d (xss.getD i []).length) (xss.getD i []).length
def bestI : Option (Nat × Nat × Nat) → Int
  | none => -1
  | some (b, _, _) => b
def leastI : Option (Nat × Nat × Nat) → Int
  | none => 0
  | some (_, o, _) => o
theorem bst_full {xss : List (List Wnt)} {d : Int} {i : Nat} {xs : List Wnt} (h : xss[i]? = some xs) (hl : xs.length = 6) : bst xss d (i + 1) = bst xss d i := by rw [bst]; simp [h, hl]
theorem bst_room {xss : List (List Wnt)} {d : Int} {i : Nat} {xs : List Wnt} (h : xss[i]? = some xs) (hl : ¬ xs.length = 6) : bst xss d (i + 1) = bstN (bst xss d i) i (cntB xs d xs.length) xs.length := by rw [bst]; simp [h, hl]
theorem bst_ok {xss : List (List Wnt)} {d : Int} : ∀ (k : Nat), k ≤ xss.length → ∀ b o n, bst xss d k = some (b, o, n) → b < k ∧ o ≤ n ∧ ∃ ys, xss[b]? = some ys ∧ n = ys.length
  | 0, _, b, o, n, h => by cases h
  | k + 1, hk, b, o, n, h => by
    obtain ⟨xs, hx⟩ : ∃ x, xss[k]? = some x := ⟨_, List.getElem?_eq_getElem (by omega)⟩
    have new : ∀ b o n, some (k, cntB xs d xs.length, xs.length) = some (b, o, n) → b < k + 1 ∧ o ≤ n ∧ ∃ ys, xss[b]? = some ys ∧ n = ys.length := fun b o n e => by
      simp only [Option.some.injEq, Prod.mk.injEq] at e
      obtain ⟨rfl, rfl, rfl⟩ := e
      exact ⟨by omega, cntB_le _ _ _, xs, hx, rfl⟩
    have old : ∀ b o n, bst xss d k = some (b, o, n) → b < k + 1 ∧ o ≤ n ∧ ∃ ys, xss[b]? = some ys ∧ n = ys.length := fun b o n e => by
      obtain ⟨h1, h2⟩ := bst_ok k (by omega) b o n e
      exact ⟨by omega, h2⟩
    by_cases hl : xs.length = 6
    · rw [bst_full hx hl] at h; exact old b o n h
    · rw [bst_room hx hl] at h
      unfold bstN at h
      split at h
      · exact new b o n h
      · rename_i b' o' n' e
        split at h
        · exact new b o n h
        · rw [← e] at h; exact old b o n h

end Go.Proofs.YtmfdgpinohbckaaDoor
