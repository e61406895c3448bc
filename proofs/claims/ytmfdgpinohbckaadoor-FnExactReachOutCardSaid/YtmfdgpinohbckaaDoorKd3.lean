/-
  StoreAll: what it answers, and the model's contract. Condition: the rack and the list read, their numbers fit their kinds, not more than 1048576.
-/
import Derived.Test.YtmfdgpinohbckaaDoorKd2
import Derived.Test.YtmfdgpinohbckaaDoorSt1
import Derived.Test.YtmfdgpinohbckaaDoorAh
import Derived.Test.YtmfdgpinohbckaaDoorMg7
import Derived.Test.YtmfdgpinohbckaaDoorMg10
import Derived.Maps.AppendAt
namespace Go.Proofs.YtmfdgpinohbckaaDoor
open Go.ChangeShapes Go.WideShapes Go.ChangeAt Go.RowKit Go.Deep

theorem bst_lt6 {xss : List (List Wnt)} {d : Int} (h6 : ∀ xs ∈ xss, xs.length ≤ 6) : ∀ (k : Nat), k ≤ xss.length → ∀ b o n, bst xss d k = some (b, o, n) → n < 6
  | 0, _, b, o, n, h => by cases h
  | k + 1, hk, b, o, n, h => by
    obtain ⟨xs, hx⟩ : ∃ x, xss[k]? = some x := ⟨_, List.getElem?_eq_getElem (by omega)⟩
    have hl := h6 xs (List.mem_of_getElem? hx)
    have ih := bst_lt6 (d := d) h6 k (by omega)
    by_cases e6 : xs.length = 6
    · rw [bst_full hx e6] at h
      exact ih b o n h
    · rw [bst_room hx e6] at h
      unfold bstN at h
      split at h
      · simp only [Option.some.injEq, Prod.mk.injEq] at h
        obtain ⟨-, -, rfl⟩ := h; omega
      · rename_i b' o' n' e
        split at h
        · simp only [Option.some.injEq, Prod.mk.injEq] at h
          obtain ⟨-, -, rfl⟩ := h; omega
        · rw [← e] at h; exact ih b o n h
def saN (T : Option (List (List Wnt) × List Int)) (x : Wnt) : Option (List (List Wnt) × List Int) :=
  match T with
  | none => none
  | some (r, ls) => match bst r x.2 r.length with
    | none => none
    | some (l, _, _) => some (r.set l (r.getD l [] ++ [x]), ls ++ [(l : Int)])
/-- The rack and the lanes when so many are stored. -/
def saS (xss : List (List Wnt)) (ys : List Wnt) : Nat → Option (List (List Wnt) × List Int)
  | 0 => some (xss, [])
  | k + 1 => saN (saS xss ys k) (ys.getD k ((0, 0), 0))
theorem saS_no {xss : List (List Wnt)} {ys : List Wnt} {k : Nat} (h : saS xss ys k = none) : ∀ m, saS xss ys (k + m) = none
  | 0 => h
  | m + 1 => by show saN (saS xss ys (k + m)) _ = none; rw [saS_no h m]; rfl
theorem saS_stop {xss : List (List Wnt)} {ys : List Wnt} {k : Nat} {x : Wnt} {r : List (List Wnt)} {ls : List Int} (hy : ys[k]? = some x) (h : saS xss ys k = some (r, ls)) (hb : bst r x.2 r.length = none) : saS xss ys ys.length = none := by
  have hk := (List.getElem?_eq_some_iff.1 hy).1
  have e : saS xss ys (k + 1) = none := by
    have hg : ys.getD k ((0, 0), 0) = x := by simp [hy]
    show saN (saS xss ys k) _ = none
    rw [h, hg]; simp [saN, hb]
  have := saS_no e (ys.length - (k + 1))
  rwa [show k + 1 + (ys.length - (k + 1)) = ys.length from by omega] at this
theorem saS_step {xss : List (List Wnt)} {ys : List Wnt} {k : Nat} {x : Wnt} {r : List (List Wnt)} {ls : List Int} {l o n : Nat} {zs : List Wnt} (hy : ys[k]? = some x) (h : saS xss ys k = some (r, ls)) (hb : bst r x.2 r.length = some (l, o, n)) (hl : r[l]? = some zs) : saS xss ys (k + 1) = some (r.set l (zs ++ [x]), ls ++ [(l : Int)]) := by
  have hg : ys.getD k ((0, 0), 0) = x := by simp [hy]
  have hz : r.getD l [] = zs := by simp [hl]
  show saN (saS xss ys k) _ = _
  rw [h, hg]; simp only [saN, hb, hz]
theorem bst_at {r : List (List Wnt)} {d : Int} (h6 : ∀ xs ∈ r, xs.length ≤ 6) {l o n : Nat} (hb : bst r d r.length = some (l, o, n)) : ∃ zs, r[l]? = some zs ∧ zs.length < 6 := by
  obtain ⟨-, -, zs, hz, rfl⟩ := bst_ok _ (Nat.le_refl _) _ _ _ hb
  exact ⟨zs, hz, bst_lt6 h6 _ (Nat.le_refl _) _ _ _ hb⟩
theorem saS_ok {xss : List (List Wnt)} {ys : List Wnt} (h6 : ∀ xs ∈ xss, xs.length ≤ 6) (hwf : ∀ xs ∈ xss, ∀ x ∈ xs, wfW x) (hwy : ∀ x ∈ ys, wfW x) : ∀ (k : Nat), k ≤ ys.length → ∀ r ls, saS xss ys k = some (r, ls) → r.length = xss.length ∧ ls.length = k ∧ (∀ zs ∈ r, zs.length ≤ 6) ∧ ∀ zs ∈ r, ∀ z ∈ zs, wfW z
  | 0, _, r, ls, h => by
    simp only [saS, Option.some.injEq, Prod.mk.injEq] at h
    obtain ⟨rfl, rfl⟩ := h
    exact ⟨rfl, rfl, h6, hwf⟩
  | k + 1, hk, r, ls, h => by
    obtain ⟨x, hy⟩ : ∃ x, ys[k]? = some x := ⟨_, List.getElem?_eq_getElem (by omega)⟩
    cases hS : saS xss ys k with
    | none => have := saS_no hS 1; rw [h] at this; cases this
    | some p =>
      obtain ⟨r0, l0⟩ := p
      obtain ⟨i1, i2, i3, i4⟩ := saS_ok h6 hwf hwy k (by omega) r0 l0 hS
      cases hb : bst r0 x.2 r0.length with
      | none =>
        have hg : ys.getD k ((0, 0), 0) = x := by simp [hy]
        rw [saS, hS, hg] at h
        simp [saN, hb] at h
      | some t =>
        obtain ⟨l, o, n⟩ := t
        obtain ⟨zs, hz, hz6⟩ := bst_at i3 hb
        rw [saS_step hy hS hb hz] at h
        simp only [Option.some.injEq, Prod.mk.injEq] at h
        obtain ⟨rfl, rfl⟩ := h
        refine ⟨by simp [i1], by simp [i2], fun u hu => ?_, fun u hu => ?_⟩
        · rcases List.mem_or_eq_of_mem_set hu with h | rfl
          · exact i3 u h
          · simp; omega
        · rcases List.mem_or_eq_of_mem_set hu with h | rfl
          · exact i4 u h
          · intro z hz2
            rcases List.mem_append.1 hz2 with h | h
            · exact i4 zs (List.mem_of_getElem? hz) z h
            · obtain rfl : z = x := by simpa using h
              exact hwy z (List.mem_of_getElem? hy)
def saG (xss : List (List Wnt)) (ys : List Wnt) : Option (List (List Wnt) × List Int) := if (rkOk xss && ys.all sV) = true then saS xss ys ys.length else none
/-- The rack, the lanes and the code of StoreAll. -/
def saR (xss : List (List Wnt)) (ys : List Wnt) : List (List Wnt) := match saG xss ys with
  | none => []
  | some p => p.1
def saL (xss : List (List Wnt)) (ys : List Wnt) : List Int := match saG xss ys with
  | none => []
  | some p => p.2
def saC (xss : List (List Wnt)) (ys : List Wnt) : Int := if (rkOk xss && ys.all sV) = true then (if (saS xss ys ys.length).isSome = true then 0 else 6) else 1
theorem sa_no {xss : List (List Wnt)} {ys : List Wnt} (h : (rkOk xss && ys.all sV) = false) : saR xss ys = [] ∧ saL xss ys = [] ∧ saC xss ys = 1 := by
  have e : saG xss ys = none := by rw [saG, h]; rfl
  exact ⟨by rw [saR, e], by rw [saL, e], by rw [saC, h]; rfl⟩
theorem sa_six {xss : List (List Wnt)} {ys : List Wnt} (h : (rkOk xss && ys.all sV) = true) (hs : saS xss ys ys.length = none) : saR xss ys = [] ∧ saL xss ys = [] ∧ saC xss ys = 6 := by
  have e : saG xss ys = none := by rw [saG, if_pos h, hs]
  exact ⟨by rw [saR, e], by rw [saL, e], by rw [saC, if_pos h, hs]; rfl⟩
theorem sa_yes {xss : List (List Wnt)} {ys : List Wnt} {r : List (List Wnt)} {ls : List Int} (h : (rkOk xss && ys.all sV) = true) (hs : saS xss ys ys.length = some (r, ls)) : saR xss ys = r ∧ saL xss ys = ls ∧ saC xss ys = 0 := by
  have e : saG xss ys = some (r, ls) := by rw [saG, if_pos h, hs]
  exact ⟨by rw [saR, e], by rw [saL, e], by rw [saC, if_pos h, hs]; rfl⟩
theorem rd_nilK {T : Type} (w : World) (B : Nat) (cells : T → List Value) (A : Option Addr) : Rd w B cells A ([] : List T) := fun h => absurd h (by simp)
theorem cell1A (W : World) (v : Value) (t : TypeId) : ∀ (j : Nat) (u : Value), [v][j]? = some u → (W.alloc (.cells #[v] t)).cell? ((⟨W.heap.size, 0, none⟩ : Addr).add j) = some u := fun j u hu => by
  have e : (⟨W.heap.size, 0, none⟩ : Addr).add j = ⟨W.heap.size, j, none⟩ := by cases j <;> simp [Addr.add]
  rw [e, Blk.cell (Blk.new W t #[v])]
  simpa using hu

end Go.Proofs.YtmfdgpinohbckaaDoor
