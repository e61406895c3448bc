/-
  Swaps of places in a list of bottles: what they make of it. No program in it.
-/
import Derived.Test.YtaigimdehlclfaaDoorV
import Derived.Test.YtaigimdehlclfaaDoorSx
namespace Go.Proofs.YtaigimdehlclfaaDoor
open Go.ChangeShapes Go.WideShapes Go.ChangeAt Go.RowKit Go.Deep

/-- Is there such a place? -/
def plI (i : Int) : Bool := decide (0 ≤ i) && decide (i ≤ 11)
/-- Are both numbers of a swap places? -/
def canS (s : Swp) : Bool := plI s.1 && plI s.2
/-- A crate behind a swap. -/
def swB (X : List Bot) (s : Swp) : List Bot := (X.set s.1.toNat (X.getD s.2.toNat (0, 0))).set s.2.toNat (X.getD s.1.toNat (0, 0))
theorem canS_nat {s : Swp} (h : canS s = true) : ∃ i j : Nat, s = ((i : Int), (j : Int)) ∧ i < 12 ∧ j < 12 := by
  obtain ⟨a, b⟩ := s
  simp only [canS, plI, Bool.and_eq_true, decide_eq_true_eq] at h
  exact ⟨a.toNat, b.toNat, by rw [Int.toNat_of_nonneg h.1.1, Int.toNat_of_nonneg h.2.1], by omega, by omega⟩
theorem canS_of {i j : Nat} (hi : i < 12) (hj : j < 12) : canS ((i : Int), (j : Int)) = true := by
  simp [canS, plI]; omega
theorem swB_nat {X : List Bot} {i j : Nat} {x y : Bot} (hi : X[i]? = some x) (hj : X[j]? = some y) : swB X ((i : Int), (j : Int)) = (X.set i y).set j x := by
  simp [swB, hi, hj]
theorem swB_wf {X : List Bot} (h : WfC X) {s : Swp} (hs : canS s = true) : WfC (swB X s) := by
  obtain ⟨i, j, rfl, hi, hj⟩ := canS_nat hs
  have hiX : i < X.length := by rw [h.1]; exact hi
  have hjX : j < X.length := by rw [h.1]; exact hj
  rw [swB_nat (List.getElem?_eq_getElem hiX) (List.getElem?_eq_getElem hjX)]
  refine ⟨by simp [h.1], fun b hb => ?_⟩
  rcases List.mem_or_eq_of_mem_set hb with hb | rfl
  · rcases List.mem_or_eq_of_mem_set hb with hb | rfl
    · exact h.2 _ hb
    · exact h.2 _ (List.getElem_mem hjX)
  · exact h.2 _ (List.getElem_mem hiX)
/-- A crate behind the first k swaps. -/
def swTo (X : List Bot) (xs : List Swp) : Nat → List Bot
  | 0 => X
  | k + 1 => match xs[k]? with | some s => swB (swTo X xs k) s | none => swTo X xs k
theorem swTo_succ {X : List Bot} {xs : List Swp} {k : Nat} {s : Swp} (h : xs[k]? = some s) : swTo X xs (k + 1) = swB (swTo X xs k) s := by simp [swTo, h]
theorem swTo_wf {X : List Bot} (h : WfC X) {xs : List Swp} (hs : xs.all canS = true) (k : Nat) : WfC (swTo X xs k) := by
  induction k with
  | zero => exact h
  | succ k ih =>
    cases hk : xs[k]? with
    | none => simp only [swTo, hk]; exact ih
    | some s => rw [swTo_succ hk]; exact swB_wf ih (List.all_eq_true.1 hs _ (List.mem_of_getElem? hk))
/-- All of the first k swaps can be. -/
def CanTo (xs : List Swp) (k : Nat) : Prop := ∀ j s, j < k → xs[j]? = some s → canS s = true
theorem CanTo.step {xs : List Swp} {k : Nat} (h : CanTo xs k) {s : Swp} (hb : xs[k]? = some s) (ho : canS s = true) : CanTo xs (k + 1) := by
  intro j c hj hc
  by_cases e : j = k
  · subst e; rw [hb] at hc; cases hc; exact ho
  · exact h j c (by omega) hc
theorem CanTo.all {xs : List Swp} (h : CanTo xs xs.length) : xs.all canS = true := by
  rw [List.all_eq_true]
  intro b hb
  obtain ⟨j, hj, rfl⟩ := List.mem_iff_getElem.1 hb
  exact h j _ hj (List.getElem?_eq_getElem hj)
theorem can_no {xs : List Swp} {k : Nat} {s : Swp} (hb : xs[k]? = some s) (ho : canS s = false) : xs.all canS = false := by
  rw [List.all_eq_false]
  exact ⟨s, List.mem_of_getElem? hb, by simp [ho]⟩
theorem CanTo.wf {X : List Bot} (h : WfC X) {xs : List Swp} {k : Nat} (hs : CanTo xs k) : WfC (swTo X xs k) := by
  induction k with
  | zero => exact h
  | succ k ih =>
    have hs' : CanTo xs k := fun j s hj => hs j s (by omega)
    cases hk : xs[k]? with
    | none => simp only [swTo, hk]; exact ih hs'
    | some s => rw [swTo_succ hk]; exact swB_wf (ih hs') (hs k s (by omega) hk)
/-- The code of swaps in a crate. -/
def saC (bs : List Bot) (xs : List Swp) : Int := if okC bs = true then (if 60 < xs.length then 3 else if xs.all canS = true then 0 else 2) else 1
/-- The crate that SwapAll answers. -/
def saL (bs : List Bot) (xs : List Swp) : List Bot := if saC bs xs = 0 then swTo bs xs xs.length else noB
/-- A crate and a code. -/
def ccV (X : List Bot) (c : Int) : Value := .tuple #[.agg (ccells X).toArray, .int .i64 c]
theorem saC_bad {bs : List Bot} (xs : List Swp) (h : okC bs = false) : saC bs xs = 1 := by simp [saC, h]
theorem saC_long {bs : List Bot} {xs : List Swp} (h : okC bs = true) (hl : 60 < xs.length) : saC bs xs = 3 := by simp [saC, h, hl]
theorem saC_no {bs : List Bot} {xs : List Swp} (h : okC bs = true) (hl : ¬ 60 < xs.length) (hs : xs.all canS = false) : saC bs xs = 2 := by simp [saC, h, hl, hs]
theorem saC_ok {bs : List Bot} {xs : List Swp} (h : okC bs = true) (hl : ¬ 60 < xs.length) (hs : xs.all canS = true) : saC bs xs = 0 := by
  unfold saC; rw [if_pos h, if_neg hl, if_pos hs]
theorem saL_of {bs : List Bot} {xs : List Swp} (h : saC bs xs = 0) : saL bs xs = swTo bs xs xs.length := by rw [saL, if_pos h]
theorem saL_no {bs : List Bot} {xs : List Swp} {c : Int} (h : saC bs xs = c) (hc : c ≠ 0) : saL bs xs = noB := by rw [saL, if_neg (by rw [h]; exact hc)]
theorem saC_zero {bs : List Bot} {xs : List Swp} (h : saC bs xs = 0) : okC bs = true ∧ ¬ 60 < xs.length ∧ xs.all canS = true := by
  cases h1 : okC bs
  · rw [saC_bad xs h1] at h; cases h
  · by_cases h2 : 60 < xs.length
    · rw [saC_long h1 h2] at h; cases h
    · cases h3 : xs.all canS
      · rw [saC_no h1 h2 h3] at h; cases h
      · exact ⟨rfl, h2, rfl⟩
theorem saL_length {bs : List Bot} (h : WfC bs) (xs : List Swp) : (saL bs xs).length = 12 := by
  by_cases h0 : saC bs xs = 0
  · rw [saL_of h0]; exact (swTo_wf h (saC_zero h0).2.2 _).1
  · rw [saL_no rfl h0]; rfl
end Go.Proofs.YtaigimdehlclfaaDoor
