/-
  Orders of samples: what is one; what sorting makes of a list. No program.
-/
import Derived.WalkKit
import Derived.Test.YtlagnocglkoomaaDoorTq
namespace Go.Proofs.YtlagnocglkoomaaDoor
open Go.RowKit

def orB (n : Int) (xs : List Int) : Bool := (decide ((xs.length : Int) = n) && xs.all (wi 0 (n - 1))) && decide xs.Nodup
def ioB (n : Int) (xs : List Int) : Bool := wi 1 8 n && orB n xs
theorem orB_iff {n : Int} {xs : List Int} : orB n xs = true ↔ (xs.length : Int) = n ∧ (∀ x ∈ xs, 0 ≤ x ∧ x ≤ n - 1) ∧ xs.Nodup := by
  simp only [orB, Bool.and_eq_true, decide_eq_true_eq, List.all_eq_true, wi_iff, and_assoc]
theorem orB_len {n : Int} {xs : List Int} (h : (xs.length : Int) ≠ n) : orB n xs = false := by
  rw [Bool.eq_false_iff]; exact fun e => h (orB_iff.1 e).1
theorem orB_out {n : Int} {xs : List Int} {k : Nat} {x : Int} (h : xs[k]? = some x) (hx : wi 0 (n - 1) x = false) : orB n xs = false := by
  rw [Bool.eq_false_iff]; intro e
  have := (orB_iff.1 e).2.1 x (List.mem_of_getElem? h)
  rw [← wi_iff, hx] at this; cases this
theorem nodup_take {xs : List Int} (h : xs.Nodup) {k : Nat} {x : Int} (hx : xs[k]? = some x) : x ∉ xs.take k := by
  intro hm
  obtain ⟨hk, e⟩ := List.getElem?_eq_some_iff.1 hx
  obtain ⟨j, hj, e2⟩ := List.mem_iff_getElem.1 hm
  rw [List.length_take] at hj
  rw [List.getElem_take] at e2
  have := (List.pairwise_iff_getElem.1 h) j k (by omega) hk (by omega)
  exact this (e2.trans e.symm)
theorem orB_twice {n : Int} {xs : List Int} {k : Nat} {x : Int} (h : xs[k]? = some x) (hx : x ∈ xs.take k) : orB n xs = false := by
  rw [Bool.eq_false_iff]; intro e
  exact nodup_take (orB_iff.1 e).2.2 h hx
/-- So far each one is within and new. -/
def orTo (n : Int) (xs : List Int) (k : Nat) : Prop := ∀ (j : Nat) (x : Int), j < k → xs[j]? = some x → (0 ≤ x ∧ x ≤ n - 1) ∧ x ∉ xs.take j
theorem orTo.zero (n : Int) (xs : List Int) : orTo n xs 0 := fun j x h => absurd h (Nat.not_lt_zero _)
theorem orTo.step {n : Int} {xs : List Int} {k : Nat} (h : orTo n xs k) {x : Int} (hx : xs[k]? = some x) (h1 : wi 0 (n - 1) x = true) (h2 : x ∉ xs.take k) : orTo n xs (k + 1) := fun j y hj hy => by
  by_cases e : j = k
  · subst e
    obtain rfl := Option.some.inj (hx.symm.trans hy)
    exact ⟨wi_iff.1 h1, h2⟩
  · exact h j y (by omega) hy
theorem orTo.all {n : Int} {xs : List Int} (h : orTo n xs xs.length) (hl : (xs.length : Int) = n) : orB n xs = true := by
  rw [orB_iff]
  refine ⟨hl, fun x hx => ?_, ?_⟩
  · obtain ⟨j, hj, rfl⟩ := List.mem_iff_getElem.1 hx
    exact (h j _ hj (List.getElem?_eq_getElem hj)).1
  · rw [List.Nodup, List.pairwise_iff_getElem]
    intro i j hi hj hij e
    refine (h j _ hj (List.getElem?_eq_getElem hj)).2 ?_
    rw [List.mem_iff_getElem]
    exact ⟨i, by rw [List.length_take]; omega, by rw [List.getElem_take]; exact e⟩

/-- The samples in their order. -/
def iota (n : Nat) : List Int := (List.range n).map fun i : Nat => (i : Int)
theorem iota_len (n : Nat) : (iota n).length = n := by simp [iota]
theorem iota_succ (n : Nat) : iota (n + 1) = iota n ++ [(n : Int)] := by simp [iota, List.range_succ]
theorem iota_mem {n : Nat} {x : Int} : x ∈ iota n ↔ 0 ≤ x ∧ x < n := by
  simp only [iota, List.mem_map, List.mem_range]
  constructor
  · rintro ⟨i, hi, rfl⟩; omega
  · intro h; exact ⟨x.toNat, by omega, by omega⟩
theorem iota_nodup (n : Nat) : (iota n).Nodup := by
  rw [iota, List.Nodup, List.pairwise_map]
  exact List.Pairwise.imp (fun h e => h (by omega)) (List.nodup_range (n := n))
/-- Sorted. -/
def srt (X : List Int) : Prop := ∀ (p q : Nat) (x y : Int), p < q → X[p]? = some x → X[q]? = some y → x ≤ y
theorem srt_iota {X xs : List Int} (hp : X.Perm xs) (hs : srt X) : decide (X = iota X.length) = orB xs.length xs := by
  rw [Bool.eq_iff_iff, decide_eq_true_eq, orB_iff]
  constructor
  · intro e
    have hl := hp.length_eq
    refine ⟨rfl, fun x hx => ?_, ?_⟩
    · have := hp.mem_iff.2 hx
      rw [e, iota_mem] at this
      omega
    · refine hp.nodup_iff.1 ?_
      rw [e]; exact iota_nodup _
  · rintro ⟨-, hb, hn⟩
    have hl := hp.length_eq
    have hX : X.Nodup := hp.nodup_iff.2 hn
    have lt : ∀ p q (hp : p < X.length) (hq : q < X.length), p < q → X[p] < X[q] := fun p q h1 h2 h3 => by
      have a := hs p q _ _ h3 (List.getElem?_eq_getElem h1) (List.getElem?_eq_getElem h2)
      have b := (List.pairwise_iff_getElem.1 hX) p q h1 h2 h3
      omega
    have lo : ∀ k (h : k < X.length), (k : Int) ≤ X[k] := fun k => by
      induction k with
      | zero => intro h; have := (hb _ (hp.mem_iff.1 (List.getElem_mem h))).1; omega
      | succ k ih => intro h; have := ih (by omega); have := lt k (k + 1) (by omega) h (by omega); omega
    have hi : ∀ d k (h : k < X.length), X.length = k + d + 1 → X[k] ≤ (k : Int) := fun d => by
      induction d with
      | zero => intro k h e; have := (hb _ (hp.mem_iff.1 (List.getElem_mem h))).2; omega
      | succ d ih => intro k h e; have := ih (k + 1) (by omega) (by omega); have := lt k (k + 1) h (by omega) (by omega); omega
    apply List.ext_getElem?
    intro k
    by_cases h : k < X.length
    · rw [List.getElem?_eq_getElem h]
      have h1 := lo k h
      have h2 := hi (X.length - k - 1) k h (by omega)
      have h3 : (iota X.length)[k]? = some (k : Int) := by simp [iota, h]
      rw [h3]; congr 1; omega
    · rw [List.getElem?_eq_none (by omega), List.getElem?_eq_none (by rw [iota_len]; omega)]
/-- Between two rounds of an insertion: all is sorted up to i, but perhaps at j. -/
def srtX (X : List Int) (i j : Nat) : Prop := ∀ p q (x y : Int), p < q → q ≤ i → q ≠ j → X[p]? = some x → X[q]? = some y → x ≤ y
def srtU (X : List Int) (i : Nat) : Prop := ∀ p q (x y : Int), p < q → q < i → X[p]? = some x → X[q]? = some y → x ≤ y
theorem srtU.begin {X : List Int} {i : Nat} (h : srtU X i) : srtX X i i := fun p q x y h1 h2 h3 => h p q x y h1 (by omega)
theorem srtX.done {X : List Int} {i j : Nat} (h : srtX X i j) (hj : j ≤ i) (hd : j = 0 ∨ ∀ x y, X[j - 1]? = some x → X[j]? = some y → x ≤ y) : srtU X (i + 1) := fun p q x y h1 h2 hx hy => by
  by_cases e : q = j
  · subst e
    rcases hd with h0 | hd
    · omega
    · by_cases e2 : p = q - 1
      · subst e2; exact hd x y hx hy
      · have hl := (List.getElem?_eq_some_iff.1 hy).1
        have hz : X[q - 1]? = some (X[q - 1]'(by omega)) := List.getElem?_eq_getElem (by omega)
        have a := h p (q - 1) x _ (by omega) (by omega) (by omega) hx hz
        have b := hd _ y hz hy
        omega
  · exact h p q x y h1 (by omega) e hx hy
def swp (X : List Int) (j : Nat) (a b : Int) : List Int := (X.set j a).set (j - 1) b
theorem swp_len (X : List Int) (j : Nat) (a b : Int) : (swp X j a b).length = X.length := by simp [swp]
theorem swp_at {X : List Int} {j : Nat} {a b : Int} (hj : 0 < j) (hl : j < X.length) (p : Nat) : (swp X j a b)[p]? = if p = j - 1 then some b else if p = j then some a else X[p]? := by
  unfold swp
  by_cases h1 : p = j - 1
  · rw [if_pos h1, h1, List.getElem?_set_self (by simp; omega)]
  · rw [if_neg h1, List.getElem?_set_ne (Ne.symm h1)]
    by_cases h2 : p = j
    · rw [if_pos h2, h2, List.getElem?_set_self hl]
    · rw [if_neg h2, List.getElem?_set_ne (Ne.symm h2)]
theorem srtX.swap {X : List Int} {i j : Nat} {a b : Int} (h : srtX X i j) (hj : 0 < j) (hji : j ≤ i) (hl : j < X.length) (ha : X[j - 1]? = some a) (hb : X[j]? = some b) (hab : b < a) : srtX (swp X j a b) i (j - 1) := fun p q x y h1 h2 h3 hx hy => by
  rw [swp_at hj hl] at hx hy
  rw [if_neg h3] at hy
  by_cases q1 : q = j
  · rw [if_pos q1] at hy
    obtain rfl := Option.some.inj hy
    by_cases p1 : p = j - 1
    · rw [if_pos p1] at hx
      obtain rfl := Option.some.inj hx
      omega
    · rw [if_neg p1, if_neg (by omega)] at hx
      exact h p (j - 1) x _ (by omega) (by omega) (by omega) hx ha
  · rw [if_neg q1] at hy
    by_cases p1 : p = j - 1
    · rw [if_pos p1] at hx
      obtain rfl := Option.some.inj hx
      exact h j q _ y (by omega) h2 q1 hb hy
    · rw [if_neg p1] at hx
      by_cases p2 : p = j
      · rw [if_pos p2] at hx
        obtain rfl := Option.some.inj hx
        exact h (j - 1) q _ y (by omega) h2 q1 ha hy
      · rw [if_neg p2] at hx
        exact h p q x y h1 h2 q1 hx hy
theorem swp_perm {X : List Int} {j : Nat} {a b : Int} (hj : 0 < j) (hl : j < X.length) (ha : X[j - 1]? = some a) (hb : X[j]? = some b) : (swp X j a b).Perm X := by
  obtain ⟨h1, e1⟩ := List.getElem?_eq_some_iff.1 ha
  obtain ⟨h2, e2⟩ := List.getElem?_eq_some_iff.1 hb
  have ex : X = X.take (j - 1) ++ a :: b :: X.drop (j + 1) := by
    conv => lhs; rw [← List.take_append_drop (j - 1) X]
    rw [List.drop_eq_getElem_cons (by omega), e1, show j - 1 + 1 = j from by omega, List.drop_eq_getElem_cons hl, e2]
  have ey : swp X j a b = X.take (j - 1) ++ b :: a :: X.drop (j + 1) := by
    apply List.ext_getElem?
    intro p
    rw [swp_at hj hl]
    by_cases p1 : p < j - 1
    · rw [if_neg (by omega), if_neg (by omega), List.getElem?_append_left (by simp; omega), List.getElem?_take, if_pos p1]
    · rw [List.getElem?_append_right (by simp; omega)]
      have hlt : (X.take (j - 1)).length = j - 1 := by simp; omega
      rw [hlt]
      by_cases p2 : p = j - 1
      · rw [if_pos p2, p2, Nat.sub_self]; rfl
      · rw [if_neg p2]
        by_cases p3 : p = j
        · rw [if_pos p3, p3, show j - (j - 1) = 1 from by omega]; rfl
        · rw [if_neg p3, show p - (j - 1) = (p - j - 1) + 2 from by omega]
          simp only [List.getElem?_cons_succ, List.getElem?_drop]
          congr 1; omega
  rw [ey]
  conv => rhs; rw [ex]
  exact (List.Perm.swap a b _).append_left _
end Go.Proofs.YtlagnocglkoomaaDoor
