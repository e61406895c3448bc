/-
  The program's contract of BlockedIn. Condition: the rack is a new one that reads as lists of things that are stored, whose numbers fit their kinds; the sentinel errors lie as the row lists them.
-/
import Derived.Test.YtdgcgkeclcpafaaDoorBk2
import Derived.Test.YtdgcgkeclcpafaaDoorAh
import Derived.Test.YtdgcgkeclcpafaaDoorGk
namespace Go.Proofs.YtdgcgkeclcpafaaDoor
open Go.ChangeShapes Go.WideShapes Go.ChangeAt Go.RowKit Go.Deep

/-- How many a spot's one blocks; the first j spots'. -/
def bC (xss : List (List Wnt)) (s : Core) : Nat := cntB (xss.getD s.2.1 []) s.1.2 s.2.2
def nB (xss : List (List Wnt)) (cs : List Core) : Nat := (cs.map (bC xss)).sum
theorem nB_snoc (xss : List (List Wnt)) (cs : List Core) (s : Core) : nB xss (cs ++ [s]) = nB xss cs + bC xss s := by simp [nB]
theorem nB_app (xss : List (List Wnt)) (cs ds : List Core) : nB xss (cs ++ ds) = nB xss cs + nB xss ds := by simp [nB]
theorem nB_row {xss : List (List Wnt)} {l : Nat} {xs : List Wnt} (h : xss[l]? = some xs) : ∀ m, nB xss (coR xs l m) = rowB xs m
  | 0 => rfl
  | m + 1 => by rw [coR, nB_snoc, nB_row h m, rowB]; simp [bC, h]
theorem nB_tot (xss : List (List Wnt)) : ∀ i, i ≤ xss.length → nB xss (coT xss i) = totB xss i
  | 0, _ => rfl
  | i + 1, h => by
    have hx : xss[i]? = some (xss[i]'(by omega)) := List.getElem?_eq_getElem (by omega)
    rw [coT_succ hx, totB_succ hx, nB_app, nB_tot xss i (by omega), nB_row hx]
theorem nB_le {xss : List (List Wnt)} : ∀ cs : List Core, (∀ s ∈ cs, bC xss s ≤ 6) → nB xss cs ≤ 6 * cs.length
  | [], _ => by simp [nB]
  | s :: cs, h => by
    have h1 := nB_le cs (fun t ht => h t (List.mem_cons_of_mem _ ht))
    have h2 := h s (List.mem_cons_self ..)
    simp only [nB, List.map_cons, List.sum_cons, List.length_cons] at h1 ⊢
    omega

end Go.Proofs.YtdgcgkeclcpafaaDoor
