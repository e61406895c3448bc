/-
  Lists of pairs: which fit, how often each is there; mathematics. No program.
-/
import Derived.Test.YtfmfgpipklmecaaDoorZ0
namespace Go.Proofs.YtfmfgpipklmecaaDoor
open Go.RowKit

abbrev Pq := Int × Int
def pqc (p : Pq) : List Value := [.int .i64 p.1, .int .i64 p.2]
theorem pqc_length (p : Pq) : (pqc p).length = 2 := rfl
theorem pqc_one (p : Pq) : (pqc p).toArray.all (·.oneCell') = true := by simp [pqc, Value.oneCell']
theorem pqc_snoc (ps : List Pq) (p : Pq) : (ps ++ [p]).flatMap pqc = ps.flatMap pqc ++ pqc p := by simp [List.flatMap_append]
def ok2 (p : Pq) : Prop := (0 ≤ p.1 ∧ p.1 < 9) ∧ (0 ≤ p.2 ∧ p.2 < 9)

def thK (f : Nat → Nat → Bool) (i : Nat) : Nat → List Pq
  | 0 => []
  | k + 1 => thK f i k ++ (if f i k = true then [((i : Int), (k : Int))] else [])
def thI (f : Nat → Nat → Bool) (n : Nat) : Nat → List Pq
  | 0 => []
  | i + 1 => thI f n i ++ thK f i n
theorem thK_yes {f : Nat → Nat → Bool} {i k : Nat} (h : f i k = true) : thK f i (k + 1) = thK f i k ++ [((i : Int), (k : Int))] := by rw [thK, if_pos h]
theorem thK_no {f : Nat → Nat → Bool} {i k : Nat} (h : f i k = false) : thK f i (k + 1) = thK f i k := by rw [thK, h]; simp
theorem thK_len (f : Nat → Nat → Bool) (i : Nat) : ∀ k, (thK f i k).length ≤ k
  | 0 => by simp [thK]
  | k + 1 => by
    have := thK_len f i k
    rw [thK, List.length_append]
    split <;> simp <;> omega
theorem thI_len (f : Nat → Nat → Bool) (n : Nat) : ∀ i, (thI f n i).length ≤ i * n
  | 0 => by simp [thI]
  | i + 1 => by
    have := thI_len f n i
    have := thK_len f i n
    rw [thI, List.length_append, Nat.succ_mul]
    omega
theorem thI_len64 (f : Nat → Nat → Bool) {n i : Nat} (hn : n ≤ 8) (hi : i ≤ n) : (thI f n i).length ≤ 64 := Nat.le_trans (thI_len f n i) (Nat.mul_le_mul (Nat.le_trans hi hn) hn)
theorem thK_mem {f : Nat → Nat → Bool} {i : Nat} : ∀ {k : Nat} {p : Pq}, p ∈ thK f i k → ∃ b : Nat, b < k ∧ p = ((i : Int), (b : Int))
  | 0, p, h => by simp [thK] at h
  | k + 1, p, h => by
    rw [thK, List.mem_append] at h
    rcases h with h | h
    · obtain ⟨b, hb, e⟩ := thK_mem h
      exact ⟨b, by omega, e⟩
    · split at h
      · exact ⟨k, by omega, by simpa using h⟩
      · simp at h
theorem thI_mem {f : Nat → Nat → Bool} {n : Nat} : ∀ {i : Nat} {p : Pq}, p ∈ thI f n i → ∃ a b : Nat, a < i ∧ b < n ∧ p = ((a : Int), (b : Int))
  | 0, p, h => by simp [thI] at h
  | i + 1, p, h => by
    rw [thI, List.mem_append] at h
    rcases h with h | h
    · obtain ⟨a, b, ha, hb, e⟩ := thI_mem h
      exact ⟨a, b, by omega, hb, e⟩
    · obtain ⟨b, hb, e⟩ := thK_mem h
      exact ⟨i, b, by omega, hb, e⟩
theorem thI_ok {f : Nat → Nat → Bool} {n : Nat} (hn : n ≤ 8) : ∀ p ∈ thI f n n, ok2 p := fun p h => by
  obtain ⟨a, b, ha, hb, rfl⟩ := thI_mem h
  exact ⟨⟨by show (0 : Int) ≤ a; omega, by show (a : Int) < 9; omega⟩, ⟨by show (0 : Int) ≤ b; omega, by show (b : Int) < 9; omega⟩⟩
/-- How often a pair is there. -/
def cntP (ps : List Pq) (p : Pq) : Nat := (ps.filter fun q => decide (q = p)).length
theorem cntP_nil (p : Pq) : cntP [] p = 0 := rfl
theorem cntP_app (xs ys : List Pq) (p : Pq) : cntP (xs ++ ys) p = cntP xs p + cntP ys p := by simp [cntP, List.filter_append]
theorem cntP_le (ps : List Pq) (p : Pq) : cntP ps p ≤ ps.length := List.length_filter_le _ _
theorem cntP_take {ps : List Pq} {k : Nat} {x : Pq} (h : ps[k]? = some x) (p : Pq) : cntP (ps.take (k + 1)) p = cntP (ps.take k) p + (if x = p then 1 else 0) := by
  obtain ⟨hlt, he⟩ := List.getElem?_eq_some_iff.1 h
  rw [List.take_succ_eq_append_getElem hlt, he, cntP_app]
  by_cases e : x = p <;> simp [cntP, e]
theorem cntP_none {ps : List Pq} {p : Pq} (h : p ∉ ps) : cntP ps p = 0 := by
  unfold cntP
  rw [List.length_eq_zero_iff, List.filter_eq_nil_iff]
  intro q hq
  simp
  intro e
  exact h (e ▸ hq)
theorem cntP_thK (f : Nat → Nat → Bool) (i : Nat) (b : Nat) : ∀ k, cntP (thK f i k) ((i : Int), (b : Int)) = if b < k ∧ f i b = true then 1 else 0
  | 0 => by simp [thK, cntP]
  | k + 1 => by
    rw [thK, cntP_app, cntP_thK f i b k]
    by_cases e : b = k
    · subst e
      cases h : f i b <;> simp [cntP]
    · have h1 : cntP (if f i k = true then [((i : Int), (k : Int))] else []) ((i : Int), (b : Int)) = 0 := cntP_none (by
        split
        · simp; omega
        · simp)
      rw [h1]
      by_cases hb : b < k ∧ f i b = true
      · rw [if_pos hb, if_pos ⟨by omega, hb.2⟩]
      · rw [if_neg hb, if_neg (fun h => hb ⟨by omega, h.2⟩)]
theorem cntP_thI (f : Nat → Nat → Bool) (n : Nat) (a b : Nat) (hb : b < n) : ∀ i, cntP (thI f n i) ((a : Int), (b : Int)) = if a < i ∧ f a b = true then 1 else 0
  | 0 => by simp [thI, cntP]
  | i + 1 => by
    rw [thI, cntP_app, cntP_thI f n a b hb i]
    by_cases e : a = i
    · subst e
      rw [cntP_thK]
      cases h : f a b <;> simp [hb]
    · have h1 : cntP (thK f i n) ((a : Int), (b : Int)) = 0 := cntP_none (fun h => by
        obtain ⟨c, -, e2⟩ := thK_mem h
        simp only [Prod.mk.injEq] at e2
        omega)
      rw [h1]
      by_cases hb : a < i ∧ f a b = true
      · rw [if_pos hb, if_pos ⟨by omega, hb.2⟩]
      · rw [if_neg hb, if_neg (fun h => hb ⟨by omega, h.2⟩)]
/-- The pairs that the first t tasters prefer. -/
def prPs (n : Nat) (m : List (List Int)) : Nat → List Pq
  | 0 => []
  | t + 1 => prPs n m t ++ thI (prB (m.getD t [])) n n
theorem prPs_succ {n : Nat} {m : List (List Int)} {t : Nat} {xs : List Int} (h : m[t]? = some xs) : prPs n m (t + 1) = prPs n m t ++ thI (prB xs) n n := by
  have e : m.getD t [] = xs := by rw [List.getD_eq_getElem?_getD, h]; rfl
  rw [prPs, e]
theorem prPs_len {n : Nat} (hn : n ≤ 8) (m : List (List Int)) : ∀ t, (prPs n m t).length ≤ 64 * t
  | 0 => by simp [prPs]
  | t + 1 => by
    have := prPs_len hn m t
    have := thI_len64 (prB (m.getD t [])) hn (Nat.le_refl n)
    rw [prPs, List.length_append]; omega
theorem prPs_ok {n : Nat} (hn : n ≤ 8) (m : List (List Int)) : ∀ t, ∀ p ∈ prPs n m t, ok2 p
  | 0, p, h => by simp [prPs] at h
  | t + 1, p, h => by
    rw [prPs, List.mem_append] at h
    rcases h with h | h
    · exact prPs_ok hn m t p h
    · exact thI_ok hn p h
theorem prPs_cnt {n : Nat} (m : List (List Int)) {a b : Nat} (ha : a < n) (hb : b < n) : ∀ t, cntP (prPs n m t) ((a : Int), (b : Int)) = prTo m a b t
  | 0 => rfl
  | t + 1 => by
    rw [prPs, cntP_app, prPs_cnt m ha hb t, cntP_thI _ _ _ _ hb, prTo]
    congr 1
    cases prB (m.getD t []) a b <;> simp [ha]
end Go.Proofs.YtfmfgpipklmecaaDoor
