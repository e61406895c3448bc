/-
  Marks: what is valid, ranks and their sums, spreads, blind numbers; mathematics. No program.
-/
import Derived.WalkKit
import Derived.Test.YtmfdgpinohbckaaDoorHm
import Derived.Test.YtmfdgpinohbckaaDoorNs
namespace Go.Proofs.YtmfdgpinohbckaaDoor
open Go.RowKit

def mkRow (n : Int) (xs : List Int) : Bool := decide ((xs.length : Int) = n) && xs.all (wi 0 20)
def mkOk (n : Int) (m : List (List Int)) : Bool := (wi 1 8 n && decide (m.length ≤ 12)) && m.all (mkRow n)
theorem mkRow_iff {n : Int} {xs : List Int} : mkRow n xs = true ↔ (xs.length : Int) = n ∧ ∀ x ∈ xs, 0 ≤ x ∧ x ≤ 20 := by
  simp only [mkRow, Bool.and_eq_true, decide_eq_true_eq, List.all_eq_true, wi_iff]
theorem mkOk_iff {n : Int} {m : List (List Int)} : mkOk n m = true ↔ (1 ≤ n ∧ n ≤ 8) ∧ m.length ≤ 12 ∧ ∀ xs ∈ m, mkRow n xs = true := by
  simp only [mkOk, Bool.and_eq_true, decide_eq_true_eq, List.all_eq_true, wi_iff, and_assoc]
theorem mkOk_n {n : Int} {m : List (List Int)} (h : wi 1 8 n = false) : mkOk n m = false := by rw [mkOk, h]; rfl
theorem mkOk_len {n : Int} {m : List (List Int)} (h : 12 < m.length) : mkOk n m = false := by rw [mkOk, decide_eq_false (by omega : ¬ m.length ≤ 12)]; simp
theorem mkRow_len {n : Int} {xs : List Int} (h : (xs.length : Int) ≠ n) : mkRow n xs = false := by rw [mkRow, decide_eq_false h]; rfl
theorem mkRow_no {n : Int} {xs : List Int} (h : xs.all (wi 0 20) = false) : mkRow n xs = false := by rw [mkRow, h, Bool.and_false]
theorem mkRow_yes {n : Int} {xs : List Int} (h : (xs.length : Int) = n) (h2 : xs.all (wi 0 20) = true) : mkRow n xs = true := by rw [mkRow, h2, decide_eq_true h]; rfl

/-- What is so of the first k. -/
def AllU {T : Type} (p : T → Bool) (xs : List T) (k : Nat) : Prop := ∀ (j : Nat) (x : T), j < k → xs[j]? = some x → p x = true
theorem AllU.zero {T : Type} (p : T → Bool) (xs : List T) : AllU p xs 0 := fun j x h => absurd h (Nat.not_lt_zero _)
theorem AllU.step {T : Type} {p : T → Bool} {xs : List T} {k : Nat} (h : AllU p xs k) {x : T} (hx : xs[k]? = some x) (hp : p x = true) : AllU p xs (k + 1) := fun j y hj hy => by
  by_cases e : j = k
  · subst e
    obtain rfl := Option.some.inj (hx.symm.trans hy)
    exact hp
  · exact h j y (by omega) hy
theorem AllU.all {T : Type} {p : T → Bool} {xs : List T} (h : AllU p xs xs.length) : xs.all p = true := by
  rw [List.all_eq_true]
  intro x hx
  obtain ⟨i, hi, rfl⟩ := List.mem_iff_getElem.1 hx
  exact h i _ hi (List.getElem?_eq_getElem hi)
theorem allU_no {T : Type} {p : T → Bool} {xs : List T} {k : Nat} {x : T} (hx : xs[k]? = some x) (hp : p x = false) : xs.all p = false := by
  rw [List.all_eq_false]
  exact ⟨x, List.mem_of_getElem? hx, by simp [hp]⟩
theorem mkOk_no {n : Int} {m : List (List Int)} {k : Nat} {xs : List Int} (hx : m[k]? = some xs) (h : mkRow n xs = false) : mkOk n m = false := by rw [mkOk, allU_no hx h, Bool.and_false]
theorem mkOk_yes {n : Int} {m : List (List Int)} (h1 : wi 1 8 n = true) (h2 : m.length ≤ 12) (h : AllU (mkRow n) m m.length) : mkOk n m = true := by rw [mkOk, h1, decide_eq_true h2, h.all]; rfl

/-- Ranks. -/
def rkP (x y : Int) : Int := if x < y then 2 else if y = x then 1 else 0
def rkTo (xs : List Int) (x : Int) : Nat → Int
  | 0 => 1
  | k + 1 => rkTo xs x k + rkP x (xs.getD k 0)
theorem rkTo_succ {xs : List Int} {x : Int} {k : Nat} {y : Int} (h : xs[k]? = some y) : rkTo xs x (k + 1) = rkTo xs x k + rkP x y := by
  rw [rkTo, List.getD_eq_getElem?_getD, h]; rfl
theorem rkP_b (x y : Int) : 0 ≤ rkP x y ∧ rkP x y ≤ 2 := by unfold rkP; split <;> (try split) <;> omega
theorem rkTo_b (xs : List Int) (x : Int) : ∀ k : Nat, 1 ≤ rkTo xs x k ∧ rkTo xs x k ≤ 1 + 2 * (k : Int)
  | 0 => by simp [rkTo]
  | k + 1 => by
    have := rkTo_b xs x k
    have := rkP_b x (xs.getD k 0)
    rw [rkTo]; omega
def rkL (xs : List Int) : List Int := xs.map fun x => rkTo xs x xs.length
theorem rkL_len (xs : List Int) : (rkL xs).length = xs.length := by simp [rkL]
theorem rkL_at {xs : List Int} {i : Nat} {x : Int} (h : xs[i]? = some x) : (rkL xs)[i]? = some (rkTo xs x xs.length) := by simp [rkL, h]
def rkUp (xs : List Int) (k : Nat) : List Int := (rkL xs).take k
theorem rkUp_succ {xs : List Int} {k : Nat} {x : Int} (h : xs[k]? = some x) : rkUp xs (k + 1) = rkUp xs k ++ [rkTo xs x xs.length] := by
  obtain ⟨h1, h2⟩ := List.getElem?_eq_some_iff.1 (rkL_at h)
  rw [rkUp, List.take_succ_eq_append_getElem h1, h2]; rfl
theorem rkUp_len {xs : List Int} {k : Nat} (h : k ≤ xs.length) : (rkUp xs k).length = k := by simp [rkUp, rkL]; omega
theorem rkUp_all (xs : List Int) : rkUp xs xs.length = rkL xs := by rw [rkUp, List.take_of_length_le (by simp [rkL])]
def rkLs (m : List (List Int)) (k : Nat) : List (List Int) := (m.take k).map rkL
theorem rkLs_succ {m : List (List Int)} {k : Nat} {xs : List Int} (h : m[k]? = some xs) : rkLs m (k + 1) = rkLs m k ++ [rkL xs] := by
  obtain ⟨h1, h2⟩ := List.getElem?_eq_some_iff.1 h
  rw [rkLs, List.take_succ_eq_append_getElem h1, List.map_append, h2]; rfl
theorem rkLs_len {m : List (List Int)} {k : Nat} (h : k ≤ m.length) : (rkLs m k).length = k := by simp [rkLs]; omega
/-- The sum of ranks of a sample over the first t tasters. -/
def rsTo (m : List (List Int)) (i : Nat) : Nat → Int
  | 0 => 0
  | t + 1 => rsTo m i t + (rkL (m.getD t [])).getD i 0
theorem rsTo_succ {m : List (List Int)} {i t : Nat} {xs : List Int} {x : Int} (h : m[t]? = some xs) (hx : xs[i]? = some x) : rsTo m i (t + 1) = rsTo m i t + rkTo xs x xs.length := by
  have e : m.getD t [] = xs := by rw [List.getD_eq_getElem?_getD, h]; rfl
  rw [rsTo, e, List.getD_eq_getElem?_getD, rkL_at hx]; rfl
theorem rsTo_b {m : List (List Int)} (h : ∀ xs ∈ m, xs.length ≤ 8) (i : Nat) : ∀ t : Nat, t ≤ m.length → 0 ≤ rsTo m i t ∧ rsTo m i t ≤ 17 * (t : Int)
  | 0, _ => by simp [rsTo]
  | t + 1, ht => by
    have ih := rsTo_b h i t (by omega)
    have hx : m[t]? = some (m[t]'(by omega)) := List.getElem?_eq_getElem (by omega)
    have hl := h _ (List.getElem_mem (show t < m.length by omega))
    have : 0 ≤ (rkL (m.getD t [])).getD i 0 ∧ (rkL (m.getD t [])).getD i 0 ≤ 17 := by
      have e : m.getD t [] = m[t]'(by omega) := by rw [List.getD_eq_getElem?_getD, hx]; rfl
      rw [e, List.getD_eq_getElem?_getD]
      cases hi : (m[t]'(by omega))[i]? with
      | none => simp [rkL, hi]
      | some x =>
        rw [rkL_at hi, Option.getD_some]
        have := rkTo_b (m[t]'(by omega)) x (m[t]'(by omega)).length
        omega
    rw [rsTo]; omega
def rsL (n : Nat) (m : List (List Int)) (t : Nat) : List Int := (List.range n).map fun i => rsTo m i t
theorem rsL_len (n : Nat) (m : List (List Int)) (t : Nat) : (rsL n m t).length = n := by simp [rsL]
theorem rsL_at {n : Nat} {m : List (List Int)} {t i : Nat} (h : i < n) : (rsL n m t)[i]? = some (rsTo m i t) := by simp [rsL, h]
theorem rsL_zero (n : Nat) (m : List (List Int)) : rsL n m 0 = List.replicate n 0 := by
  apply List.ext_getElem?
  intro i
  by_cases hi : i < n
  · rw [rsL_at hi]; simp [hi, rsTo]
  · rw [List.getElem?_eq_none (by rw [rsL_len]; omega), List.getElem?_eq_none (by simp; omega)]
/-- Behind so many tasters, and so many samples of the next one. -/
def rsM (n : Nat) (m : List (List Int)) (t j : Nat) : List Int := (List.range n).map fun i => if i < j then rsTo m i (t + 1) else rsTo m i t
theorem rsM_len (n : Nat) (m : List (List Int)) (t j : Nat) : (rsM n m t j).length = n := by simp [rsM]
theorem rsM_at {n : Nat} {m : List (List Int)} {t j i : Nat} (h : i < n) : (rsM n m t j)[i]? = some (if i < j then rsTo m i (t + 1) else rsTo m i t) := by simp [rsM, h]
theorem rsM_zero (n : Nat) (m : List (List Int)) (t : Nat) : rsM n m t 0 = rsL n m t := by simp [rsM, rsL]
theorem rsM_all (n : Nat) (m : List (List Int)) (t : Nat) : rsM n m t n = rsL n m (t + 1) := by
  apply List.ext_getElem?
  intro i
  by_cases hi : i < n
  · rw [rsL_at hi, rsM_at hi, if_pos hi]
  · rw [List.getElem?_eq_none (by rw [rsM_len]; omega), List.getElem?_eq_none (by rw [rsL_len]; omega)]
theorem rsM_step {n : Nat} {m : List (List Int)} {t j : Nat} (h : j < n) : (rsM n m t j).set j (rsTo m j (t + 1)) = rsM n m t (j + 1) := by
  apply List.ext_getElem?
  intro i
  by_cases hi : i < n
  · by_cases e : i = j
    · subst e
      rw [List.getElem?_set_self (by rw [rsM_len]; omega), rsM_at hi, if_pos (by omega)]
    · rw [List.getElem?_set_ne (Ne.symm e), rsM_at hi, rsM_at hi]
      by_cases h2 : i < j
      · rw [if_pos h2, if_pos (by omega)]
      · rw [if_neg h2, if_neg (by omega)]
  · rw [List.getElem?_eq_none (by simp [rsM_len]; omega), List.getElem?_eq_none (by rw [rsM_len]; omega)]
theorem rsL_succ {n : Nat} {m : List (List Int)} {t : Nat} : rsL (n + 1) m t = rsL n m t ++ [rsTo m n t] := by simp [rsL, List.range_succ]

/-- The codes; the answers. -/
def mkC (n : Int) (m : List (List Int)) : Int := if mkOk n m = true then 0 else 1
def rsA (n : Int) (m : List (List Int)) : List Int := if mkOk n m = true then rsL n.toNat m m.length else []
def rkA (n : Int) (m : List (List Int)) : List (List Int) := if mkOk n m = true then rkLs m m.length else []
theorem mkC_yes {n : Int} {m : List (List Int)} (h : mkOk n m = true) : mkC n m = 0 ∧ rsA n m = rsL n.toNat m m.length ∧ rkA n m = rkLs m m.length := by simp [mkC, rsA, rkA, h]
theorem mkC_no {n : Int} {m : List (List Int)} (h : mkOk n m = false) : mkC n m = 1 ∧ rsA n m = [] ∧ rkA n m = [] := by simp [mkC, rsA, rkA, h]
theorem rsA_len (n : Int) (m : List (List Int)) : (rsA n m).length ≤ 8 := by
  unfold rsA
  split
  · have h : mkOk n m = true := by assumption
    have := (mkOk_iff.1 h).1
    rw [rsL_len]; omega
  · simp

/-- Sums and spreads. -/
def suTo (xs : List Int) : Nat → Int
  | 0 => 0
  | k + 1 => suTo xs k + xs.getD k 0
theorem suTo_succ {xs : List Int} {k : Nat} {x : Int} (h : xs[k]? = some x) : suTo xs (k + 1) = suTo xs k + x := by
  rw [suTo, List.getD_eq_getElem?_getD, h]; rfl
theorem suTo_b {xs : List Int} {M : Int} (hM : 0 ≤ M) (h : ∀ x ∈ xs, 0 ≤ x ∧ x ≤ M) : ∀ k : Nat, k ≤ xs.length → 0 ≤ suTo xs k ∧ suTo xs k ≤ M * (k : Int)
  | 0, _ => by simp [suTo]
  | k + 1, hk => by
    have ih := suTo_b hM h k (by omega)
    have hx : xs[k]? = some (xs[k]'(by omega)) := List.getElem?_eq_getElem (by omega)
    have hl := h _ (List.getElem_mem (show k < xs.length by omega))
    have e : M * ((k + 1 : Nat) : Int) = M * (k : Int) + M := by rw [Int.natCast_succ, Int.mul_add, Int.mul_one]
    rw [suTo_succ hx, e]; omega
def spO (n a x : Int) : Int := (n * x - a) * (n * x - a)
def spTo (n a : Int) (xs : List Int) : Nat → Int
  | 0 => 0
  | k + 1 => spTo n a xs k + spO n a (xs.getD k 0)
theorem spTo_succ {n a : Int} {xs : List Int} {k : Nat} {x : Int} (h : xs[k]? = some x) : spTo n a xs (k + 1) = spTo n a xs k + spO n a x := by
  rw [spTo, List.getD_eq_getElem?_getD, h]; rfl
theorem sq_b {a : Int} (h : -10000 ≤ a ∧ a ≤ 10000) : 0 ≤ a * a ∧ a * a ≤ 100000000 := by
  refine ⟨by rcases Int.le_total 0 a with h | h; exact Int.mul_nonneg h h; exact Int.mul_nonneg_of_nonpos_of_nonpos h h, ?_⟩
  have := Int.mul_nonneg (show 0 ≤ 10000 - a by omega) (show 0 ≤ 10000 + a by omega)
  rw [Int.sub_mul, Int.mul_add, Int.mul_add, Int.mul_comm a 10000] at this
  omega
theorem mul_b {n x : Int} (h : 1 ≤ n ∧ n ≤ 8) (hx : 0 ≤ x ∧ x ≤ 204) : 0 ≤ n * x ∧ n * x ≤ 1632 := by
  refine ⟨Int.mul_nonneg (by omega) (by omega), ?_⟩
  have := Int.mul_le_mul h.2 hx.2 hx.1 (by omega)
  omega
theorem spO_b {n a x : Int} (h : 1 ≤ n ∧ n ≤ 8) (ha : 0 ≤ a ∧ a ≤ 1632) (hx : 0 ≤ x ∧ x ≤ 204) : (0 ≤ n * x ∧ n * x ≤ 1632) ∧ 0 ≤ spO n a x ∧ spO n a x ≤ 100000000 := by
  have := mul_b h hx
  exact ⟨this, sq_b (by omega)⟩
theorem spTo_b {n a : Int} {xs : List Int} (h : 1 ≤ n ∧ n ≤ 8) (ha : 0 ≤ a ∧ a ≤ 1632) (hx : ∀ x ∈ xs, 0 ≤ x ∧ x ≤ 204) : ∀ k : Nat, k ≤ xs.length → 0 ≤ spTo n a xs k ∧ spTo n a xs k ≤ 100000000 * (k : Int)
  | 0, _ => by simp [spTo]
  | k + 1, hk => by
    have ih := spTo_b h ha hx k (by omega)
    have e : xs[k]? = some (xs[k]'(by omega)) := List.getElem?_eq_getElem (by omega)
    have := (spO_b h ha (hx _ (List.getElem_mem (show k < xs.length by omega)))).2
    rw [spTo_succ e]; omega
def spN (n : Int) (m : List (List Int)) : Int := if mkOk n m = true then spTo n (suTo (rsA n m) (rsA n m).length) (rsA n m) (rsA n m).length else 0
theorem rsA_mem {n : Int} {m : List (List Int)} {x : Int} (hx : x ∈ rsA n m) : 0 ≤ x ∧ x ≤ 204 := by
  unfold rsA at hx
  split at hx
  · have h : mkOk n m = true := by assumption
    obtain ⟨h1, h2, h3⟩ := mkOk_iff.1 h
    obtain ⟨i, -, rfl⟩ := List.mem_map.1 hx
    have := rsTo_b (m := m) (fun xs hxs => by have := (mkRow_iff.1 (h3 xs hxs)).1; omega) i m.length (Nat.le_refl _)
    omega
  · cases hx
/-- Without a taster. -/
def wtTo (m : List (List Int)) (q : Int) : Nat → List (List Int)
  | 0 => []
  | k + 1 => if (k : Int) = q then wtTo m q k else wtTo m q k ++ [m.getD k []]
theorem wtTo_same (m : List (List Int)) {q : Int} {k : Nat} (h : (k : Int) = q) : wtTo m q (k + 1) = wtTo m q k := by rw [wtTo, if_pos h]
theorem wtTo_next {m : List (List Int)} {q : Int} {k : Nat} {xs : List Int} (hx : m[k]? = some xs) (h : (k : Int) ≠ q) : wtTo m q (k + 1) = wtTo m q k ++ [xs] := by
  rw [wtTo, if_neg h, List.getD_eq_getElem?_getD, hx]; rfl
theorem wtTo_len (m : List (List Int)) (q : Int) : ∀ k, (wtTo m q k).length ≤ k
  | 0 => by simp [wtTo]
  | k + 1 => by
    have := wtTo_len m q k
    rw [wtTo]; split <;> simp <;> omega
theorem wtTo_mem {m : List (List Int)} {q : Int} : ∀ {k : Nat} {xs : List Int}, k ≤ m.length → xs ∈ wtTo m q k → xs ∈ m
  | 0, xs, _, h => by simp [wtTo] at h
  | k + 1, xs, hk, h => by
    have e : m[k]? = some (m[k]'(by omega)) := List.getElem?_eq_getElem (by omega)
    rw [wtTo] at h
    split at h
    · exact wtTo_mem (by omega) h
    · rcases List.mem_append.1 h with h | h
      · exact wtTo_mem (by omega) h
      · rw [List.getD_eq_getElem?_getD, e, Option.getD_some, List.mem_singleton] at h
        subst h; exact List.getElem_mem _
def wtC (n : Int) (m : List (List Int)) (q : Int) : Int := if mkOk n m = true then (if wi 0 ((m.length : Int) - 1) q = true then 0 else 2) else 1
def wtA (n : Int) (m : List (List Int)) (q : Int) : List (List Int) := if wtC n m q = 0 then wtTo m q m.length else []
theorem wtC_inv {n q : Int} {m : List (List Int)} (h : mkOk n m = false) : wtC n m q = 1 ∧ wtA n m q = [] := by simp [wtA, wtC, h]
theorem wtC_rng {n q : Int} {m : List (List Int)} (h : mkOk n m = true) (hq : wi 0 ((m.length : Int) - 1) q = false) : wtC n m q = 2 ∧ wtA n m q = [] := by simp [wtA, wtC, h, hq]
theorem wtC_ok {n q : Int} {m : List (List Int)} (h : mkOk n m = true) (hq : wi 0 ((m.length : Int) - 1) q = true) : wtC n m q = 0 ∧ wtA n m q = wtTo m q m.length := by simp [wtA, wtC, h, hq]
/-- Blind numbers. -/
def bnU (st fi : Int) (k : Nat) : List Int := (List.range k).map fun (i : Nat) => 100 + (fi + (i : Int) * st) % 900
theorem bnU_len (st fi : Int) (k : Nat) : (bnU st fi k).length = k := by simp [bnU]
theorem bnU_succ (st fi : Int) (k : Nat) : bnU st fi (k + 1) = bnU st fi k ++ [100 + (fi + (k : Int) * st) % 900] := by simp [bnU, List.range_succ]
def bnR (n st fi : Int) : Bool := (wi 1 8 n && wi 1 899 st) && wi 0 899 fi
def bnC (n st fi : Int) : Int := if bnR n st fi = true then (if Nat.gcd 900 st.toNat ≤ 1 then 0 else 4) else 2
def bnA (n st fi : Int) : List Int := if bnC n st fi = 0 then bnU st fi n.toNat else []
theorem bnC_rng {n st fi : Int} (h : bnR n st fi = false) : bnC n st fi = 2 ∧ bnA n st fi = [] := by simp [bnA, bnC, h]
theorem bnC_st {n st fi : Int} (h : bnR n st fi = true) (hg : ¬ Nat.gcd 900 st.toNat ≤ 1) : bnC n st fi = 4 ∧ bnA n st fi = [] := by simp [bnA, bnC, h, hg]
theorem bnC_ok {n st fi : Int} (h : bnR n st fi = true) (hg : Nat.gcd 900 st.toNat ≤ 1) : bnC n st fi = 0 ∧ bnA n st fi = bnU st fi n.toNat := by simp [bnA, bnC, h, hg]
theorem bnA_len (n st fi : Int) : (bnA n st fi).length ≤ 8 := by
  unfold bnA
  split
  · have h : bnC n st fi = 0 := by assumption
    cases hb : bnR n st fi
    · rw [(bnC_rng hb).1] at h; omega
    · simp only [bnR, Bool.and_eq_true, wi_iff] at hb
      rw [bnU_len]; omega
  · simp
end Go.Proofs.YtmfdgpinohbckaaDoor
