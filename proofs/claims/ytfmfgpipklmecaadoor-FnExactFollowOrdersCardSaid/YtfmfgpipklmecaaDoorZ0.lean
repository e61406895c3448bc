/-
  Pairs of samples: how many tasters prefer, matrices of numbers; mathematics. No program.
-/
import Derived.Test.YtfmfgpipklmecaaDoorTq
namespace Go.Proofs.YtfmfgpipklmecaaDoor
open Go.RowKit

/-- Whether one taster prefers i to k. -/
def prB (xs : List Int) (i k : Nat) : Bool := decide (xs.getD k 0 < xs.getD i 0)
/-- How many of the first t tasters prefer i to k. -/
def prTo (m : List (List Int)) (i k : Nat) : Nat → Nat
  | 0 => 0
  | t + 1 => prTo m i k t + (if prB (m.getD t []) i k = true then 1 else 0)
theorem prTo_succ {m : List (List Int)} {t : Nat} {xs : List Int} (h : m[t]? = some xs) (i k : Nat) : prTo m i k (t + 1) = prTo m i k t + (if prB xs i k = true then 1 else 0) := by
  have e : m.getD t [] = xs := by rw [List.getD_eq_getElem?_getD, h]; rfl
  rw [prTo, e]
theorem prTo_le (m : List (List Int)) (i k : Nat) : ∀ t, prTo m i k t ≤ t
  | 0 => by simp [prTo]
  | t + 1 => by
    have := prTo_le m i k t
    rw [prTo]; split <;> omega
theorem prB_at {xs : List Int} {i k : Nat} {x y : Int} (hi : xs[i]? = some x) (hk : xs[k]? = some y) : prB xs i k = decide (y < x) := by
  rw [prB, List.getD_eq_getElem?_getD, List.getD_eq_getElem?_getD, hi, hk]; rfl

/-- A matrix of numbers. -/
def mRow (n : Nat) (f : Nat → Nat → Nat) (a : Nat) : List Int := (List.range n).map fun b => ((f a b : Nat) : Int)
def mat (n : Nat) (f : Nat → Nat → Nat) : List (List Int) := (List.range n).map (mRow n f)
theorem mRow_len (n : Nat) (f : Nat → Nat → Nat) (a : Nat) : (mRow n f a).length = n := by simp [mRow]
theorem mat_len (n : Nat) (f : Nat → Nat → Nat) : (mat n f).length = n := by simp [mat]
theorem mat_at {n : Nat} (f : Nat → Nat → Nat) {a : Nat} (h : a < n) : (mat n f)[a]? = some (mRow n f a) := by simp [mat, h]
theorem mRow_at {n : Nat} (f : Nat → Nat → Nat) (a : Nat) {b : Nat} (h : b < n) : (mRow n f a)[b]? = some ((f a b : Nat) : Int) := by simp [mRow, h]
theorem mat_congr {n : Nat} {f g : Nat → Nat → Nat} (h : ∀ a b, a < n → b < n → f a b = g a b) : mat n f = mat n g := by
  unfold mat
  refine List.map_congr_left fun a ha => ?_
  have ha' : a < n := by simpa using ha
  unfold mRow
  refine List.map_congr_left fun b hb => ?_
  rw [h a b ha' (by simpa using hb)]
theorem mat_set {n : Nat} {f g : Nat → Nat → Nat} {i k : Nat} (hi : i < n) (hk : k < n) {x : Int} (hx : x = ((g i k : Nat) : Int)) (ho : ∀ a b, a < n → b < n → ¬ (a = i ∧ b = k) → g a b = f a b) :
    (mat n f).set i ((mRow n f i).set k x) = mat n g := by
  apply List.ext_getElem?
  intro a
  by_cases ha : a < n
  · rw [mat_at g ha]
    by_cases e : a = i
    · subst e
      rw [List.getElem?_set_self (by rw [mat_len]; exact ha)]
      congr 1
      apply List.ext_getElem?
      intro b
      by_cases hb : b < n
      · rw [mRow_at g a hb]
        by_cases e2 : b = k
        · subst e2
          rw [List.getElem?_set_self (by rw [mRow_len]; exact hb), hx]
        · rw [List.getElem?_set_ne (Ne.symm e2), mRow_at f a hb, ho a b ha hb (fun h => e2 h.2)]
      · rw [List.getElem?_eq_none (by rw [List.length_set, mRow_len]; omega), List.getElem?_eq_none (by rw [mRow_len]; omega)]
    · rw [List.getElem?_set_ne (Ne.symm e), mat_at f ha]
      congr 1
      unfold mRow
      refine List.map_congr_left fun b hb => ?_
      rw [ho a b ha (by simpa using hb) (fun h => e h.1)]
  · rw [List.getElem?_eq_none (by rw [List.length_set, mat_len]; omega), List.getElem?_eq_none (by rw [mat_len]; omega)]
/-- A matrix that is set up to the place (i, k). -/
def upTo (f g : Nat → Nat → Nat) (i k : Nat) : Nat → Nat → Nat := fun a b => if a < i ∨ (a = i ∧ b < k) then g a b else f a b
theorem upTo_next {n : Nat} (f g : Nat → Nat → Nat) (i : Nat) : mat n (upTo f g i n) = mat n (upTo f g (i + 1) 0) := mat_congr fun a b ha hb => by
  unfold upTo
  by_cases h : a < i ∨ (a = i ∧ b < n)
  · rw [if_pos h, if_pos (by omega)]
  · rw [if_neg h, if_neg (by omega)]
theorem upTo_start {n : Nat} (f g : Nat → Nat → Nat) : mat n (upTo f g 0 0) = mat n f := mat_congr fun a b ha hb => by unfold upTo; rw [if_neg (by omega)]
theorem upTo_all {n : Nat} (f g : Nat → Nat → Nat) : mat n (upTo f g n 0) = mat n g := mat_congr fun a b ha hb => by unfold upTo; rw [if_pos (Or.inl ha)]
theorem upTo_set {n : Nat} {f g : Nat → Nat → Nat} {i k : Nat} (hi : i < n) (hk : k < n) : (mat n (upTo f g i k)).set i ((mRow n (upTo f g i k) i).set k ((g i k : Nat) : Int)) = mat n (upTo f g i (k + 1)) :=
  mat_set hi hk (by unfold upTo; rw [if_pos (Or.inr ⟨rfl, by omega⟩)]) (fun a b _ _ h => by
    unfold upTo
    by_cases h1 : a < i ∨ (a = i ∧ b < k)
    · rw [if_pos h1, if_pos (by omega)]
    · rw [if_neg h1, if_neg (by omega)])
theorem upTo_skip {n : Nat} {f g : Nat → Nat → Nat} {i k : Nat} (h : g i k = f i k) : mat n (upTo f g i (k + 1)) = mat n (upTo f g i k) := mat_congr fun a b _ _ => by
  unfold upTo
  by_cases e : a = i ∧ b = k
  · obtain ⟨rfl, rfl⟩ := e
    rw [if_pos (by omega), if_neg (by omega), h]
  · by_cases h1 : a < i ∨ (a = i ∧ b < k)
    · rw [if_pos (by omega), if_pos h1]
    · rw [if_neg (by omega), if_neg h1]
theorem upTo_at (f g : Nat → Nat → Nat) (i k : Nat) : upTo f g i k i k = f i k := by unfold upTo; rw [if_neg (by omega)]
/-- How many prefer, of all tasters. -/
def prF (m : List (List Int)) (t : Nat) : Nat → Nat → Nat := fun a b => prTo m a b t
theorem prF_zero (n : Nat) (m : List (List Int)) : mat n (prF m 0) = List.replicate n (List.replicate n 0) := by
  apply List.ext_getElem?
  intro a
  by_cases ha : a < n
  · rw [mat_at _ ha, List.getElem?_replicate, if_pos ha]
    congr 1
    apply List.ext_getElem?
    intro b
    by_cases hb : b < n
    · rw [mRow_at _ _ hb, List.getElem?_replicate, if_pos hb]; rfl
    · rw [List.getElem?_eq_none (by rw [mRow_len]; omega), List.getElem?_eq_none (by simp; omega)]
  · rw [List.getElem?_eq_none (by rw [mat_len]; omega), List.getElem?_eq_none (by simp; omega)]
/-- Zeros, so many rows. -/
def zL (n k : Nat) : List (List Int) := List.replicate k (List.replicate n 0)
theorem zL_succ (n k : Nat) : zL n (k + 1) = zL n k ++ [List.replicate n 0] := by rw [zL, zL, List.replicate_succ']
theorem zL_len (n k : Nat) : (zL n k).length = k := by simp [zL]
end Go.Proofs.YtfmfgpipklmecaaDoor
