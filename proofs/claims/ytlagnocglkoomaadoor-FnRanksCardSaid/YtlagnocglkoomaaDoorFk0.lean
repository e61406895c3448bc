/-
  FnRanks: mathematics: ranks of a taster sum up and are less for greater marks; sums are no further apart than those of tasters who all agree. No condition.
-/
import Derived.Test.YtlagnocglkoomaaDoorSd0
namespace Go.Proofs.YtlagnocglkoomaaDoor
open Go.RowKit

/-- Sums of what numbers below one have. -/
def fkS (f : Nat → Int) : Nat → Int
  | 0 => 0
  | k + 1 => fkS f k + f k
theorem fk_sN_congr {f g : Nat → Int} : ∀ {n : Nat}, (∀ k, k < n → f k = g k) → fkS f n = fkS g n
  | 0, _ => rfl
  | n + 1, h => by rw [fkS, fkS, fk_sN_congr (fun k hk => h k (by omega)), h n (by omega)]
theorem fk_sN_add (f g : Nat → Int) : ∀ n, fkS (fun k => f k + g k) n = fkS f n + fkS g n
  | 0 => rfl
  | n + 1 => by rw [fkS, fkS, fkS, fk_sN_add f g n]; omega
theorem fk_sN_mul (c : Int) (f : Nat → Int) : ∀ n, fkS (fun k => c * f k) n = c * fkS f n
  | 0 => by simp [fkS]
  | n + 1 => by rw [fkS, fkS, fk_sN_mul c f n]; grind
theorem fk_sN_const (c : Int) : ∀ n, fkS (fun _ => c) n = c * n
  | 0 => by simp [fkS]
  | n + 1 => by rw [fkS, fk_sN_const c n]; grind
theorem fk_sN_le {f g : Nat → Int} : ∀ {n : Nat}, (∀ k, k < n → f k ≤ g k) → fkS f n ≤ fkS g n
  | 0, _ => Int.le_refl _
  | n + 1, h => by
    have := fk_sN_le (fun k hk => h k (by omega : k < n + 1)) (n := n)
    have := h n (by omega)
    rw [fkS, fkS]; omega
theorem fk_sN_swap (f : Nat → Nat → Int) (n : Nat) : ∀ m, fkS (fun i => fkS (fun j => f i j) n) m = fkS (fun j => fkS (fun i => f i j) m) n
  | 0 => by simp only [fkS]; rw [fk_sN_const]; simp
  | m + 1 => by rw [fkS, fk_sN_swap f n m, ← fk_sN_add]; rfl
theorem rkTo_sN (xs : List Int) (x : Int) : ∀ k, rkTo xs x k = 1 + fkS (fun j => rkP x (xs.getD j 0)) k
  | 0 => rfl
  | k + 1 => by rw [rkTo, fkS, rkTo_sN xs x k]; omega
/-- How far a rank is from the middle. -/
def fkG (x y : Int) : Int := rkP x y - 1
theorem fk_sg_tri (x y z : Int) : fkG z x * fkG z y + (fkG x z * fkG x y + fkG y z * fkG y x) ≤ 1 := by
  unfold fkG rkP
  repeat' split
  all_goals omega
theorem fk_sg_sq (x y : Int) : fkG x y * fkG x y ≤ 1 := by
  unfold fkG rkP
  repeat' split
  all_goals omega
def fkD (e : Nat → Int) (n i : Nat) : Int := fkS (fun j => fkG (e i) (e j)) n
theorem fk_dv_var (e : Nat → Int) : ∀ n : Nat, 3 * fkS (fun i => fkD e n i * fkD e n i) n ≤ (n : Int) * n * n - n
  | 0 => by simp [fkS]
  | n + 1 => by
    have ih := fk_dv_var e n
    have h0 : fkG (e n) (e n) = 0 := by simp [fkG, rkP]
    have e1 : fkD e (n + 1) n = fkD e n n := by show fkS _ n + fkG (e n) (e n) = _; rw [h0]; simp [fkD]
    have e2 : ∀ i, fkD e (n + 1) i = fkD e n i + fkG (e i) (e n) := fun i => rfl
    have e3 : fkS (fun i => fkD e (n + 1) i * fkD e (n + 1) i) (n + 1) = fkS (fun i => fkD e n i * fkD e n i) n + (fkS (fun i => fkG (e i) (e n) * fkG (e i) (e n)) n + (2 * fkS (fun i => fkG (e i) (e n) * fkD e n i) n + fkD e n n * fkD e n n)) := by
      rw [fkS, e1, ← fk_sN_mul]
      have : fkS (fun i => fkD e (n + 1) i * fkD e (n + 1) i) n = fkS (fun i => fkD e n i * fkD e n i + (fkG (e i) (e n) * fkG (e i) (e n) + 2 * (fkG (e i) (e n) * fkD e n i))) n := fk_sN_congr fun i _ => by rw [e2]; grind
      rw [this, fk_sN_add, fk_sN_add]; omega
    have e4 : fkD e n n * fkD e n n = fkS (fun i => fkS (fun j => fkG (e n) (e i) * fkG (e n) (e j)) n) n := by
      have : ∀ i, fkS (fun j => fkG (e n) (e i) * fkG (e n) (e j)) n = fkG (e n) (e i) * fkD e n n := fun i => by rw [fk_sN_mul]; rfl
      simp only [this]
      have h2 : ∀ i, fkG (e n) (e i) * fkD e n n = fkD e n n * fkG (e n) (e i) := fun i => Int.mul_comm _ _
      simp only [h2]
      rw [fk_sN_mul]; rfl
    have e5 : fkS (fun i => fkG (e i) (e n) * fkD e n i) n = fkS (fun i => fkS (fun j => fkG (e i) (e n) * fkG (e i) (e j)) n) n := fk_sN_congr fun i _ => by rw [fk_sN_mul]; rfl
    have e6 : fkS (fun i => fkS (fun j => fkG (e i) (e n) * fkG (e i) (e j)) n) n = fkS (fun i => fkS (fun j => fkG (e j) (e n) * fkG (e j) (e i)) n) n := fk_sN_swap _ _ _
    have e7 : 2 * fkS (fun i => fkG (e i) (e n) * fkD e n i) n + fkD e n n * fkD e n n ≤ (n : Int) * n := by
      have : 2 * fkS (fun i => fkG (e i) (e n) * fkD e n i) n + fkD e n n * fkD e n n = fkS (fun i => fkS (fun j => fkG (e n) (e i) * fkG (e n) (e j) + (fkG (e i) (e n) * fkG (e i) (e j) + fkG (e j) (e n) * fkG (e j) (e i))) n) n := by
        have : fkS (fun i => fkS (fun j => fkG (e n) (e i) * fkG (e n) (e j) + (fkG (e i) (e n) * fkG (e i) (e j) + fkG (e j) (e n) * fkG (e j) (e i))) n) n = fkS (fun i => fkS (fun j => fkG (e n) (e i) * fkG (e n) (e j)) n + (fkS (fun j => fkG (e i) (e n) * fkG (e i) (e j)) n + fkS (fun j => fkG (e j) (e n) * fkG (e j) (e i)) n)) n := fk_sN_congr fun i _ => by rw [fk_sN_add, fk_sN_add]
        rw [this, fk_sN_add, fk_sN_add, ← e4, ← e6, ← e5]; omega
      rw [this]
      have := fk_sN_le (n := n) (f := fun i => fkS (fun j => fkG (e n) (e i) * fkG (e n) (e j) + (fkG (e i) (e n) * fkG (e i) (e j) + fkG (e j) (e n) * fkG (e j) (e i))) n) (g := fun _ => fkS (fun _ => 1) n) (fun i _ => fk_sN_le fun j _ => fk_sg_tri _ _ _)
      refine Int.le_trans this ?_
      rw [fk_sN_const, fk_sN_const]; simp
    have e8 : fkS (fun i => fkG (e i) (e n) * fkG (e i) (e n)) n ≤ n := by
      have := fk_sN_le (n := n) (f := fun i => fkG (e i) (e n) * fkG (e i) (e n)) (g := fun _ => 1) (fun i _ => fk_sg_sq _ _)
      rw [fk_sN_const] at this; omega
    rw [e3]
    have e9 : ((n + 1 : Nat) : Int) * ((n + 1 : Nat) : Int) * ((n + 1 : Nat) : Int) - ((n + 1 : Nat) : Int) = (n : Int) * n * n - n + 3 * ((n : Int) * n) + 3 * n := by grind
    rw [e9]; omega
theorem fk_cauchy (a : Nat → Int) : ∀ T : Nat, fkS a T * fkS a T ≤ T * fkS (fun t => a t * a t) T
  | 0 => by simp [fkS]
  | T + 1 => by
    have ih := fk_cauchy a T
    have h : 0 ≤ fkS (fun t => (a T - a t) * (a T - a t)) T := by
      have := fk_sN_le (n := T) (f := fun _ => 0) (g := fun t => (a T - a t) * (a T - a t)) (fun t _ => by
        rcases Int.le_total 0 (a T - a t) with h | h
        · exact Int.mul_nonneg h h
        · exact Int.mul_nonneg_of_nonpos_of_nonpos h h)
      rw [fk_sN_const] at this; omega
    have h2 : fkS (fun t => (a T - a t) * (a T - a t)) T = T * (a T * a T) - 2 * (a T * fkS a T) + fkS (fun t => a t * a t) T := by
      have : fkS (fun t => (a T - a t) * (a T - a t)) T = fkS (fun t => a T * a T + (-2 * a T * a t + a t * a t)) T := fk_sN_congr fun t _ => by grind
      rw [this, fk_sN_add, fk_sN_add, fk_sN_const, fk_sN_mul]; grind
    rw [fkS, fkS]
    have e : (((T + 1 : Nat) : Int)) = (T : Int) + 1 := by omega
    rw [e]
    grind
theorem rsTo_sN (m : List (List Int)) (i : Nat) : ∀ t, rsTo m i t = fkS (fun t => (rkL (m.getD t [])).getD i 0) t
  | 0 => rfl
  | t + 1 => by rw [rsTo, fkS, rsTo_sN m i t]
theorem suTo_sN (xs : List Int) : ∀ k, suTo xs k = fkS (fun i => xs.getD i 0) k
  | 0 => rfl
  | k + 1 => by rw [suTo, fkS, suTo_sN xs k]
theorem spTo_sN (n a : Int) (xs : List Int) : ∀ k, spTo n a xs k = fkS (fun i => spO n a (xs.getD i 0)) k
  | 0 => rfl
  | k + 1 => by rw [spTo, fkS, spTo_sN n a xs k]
theorem fk_dv_zero (e : Nat → Int) (n : Nat) : fkS (fun i => fkD e n i) n = 0 := by
  have h1 : fkS (fun i => fkD e n i) n = fkS (fun i => fkS (fun j => fkG (e j) (e i)) n) n := fk_sN_swap _ _ _
  have h2 : fkS (fun i => fkD e n i + fkS (fun j => fkG (e j) (e i)) n) n = 0 := by
    have : fkS (fun i => fkD e n i + fkS (fun j => fkG (e j) (e i)) n) n = fkS (fun i => 0) n := fk_sN_congr fun i _ => by
      show fkS _ n + _ = _
      rw [← fk_sN_add]
      have : fkS (fun j => fkG (e i) (e j) + fkG (e j) (e i)) n = fkS (fun _ => 0) n := fk_sN_congr fun j _ => by
        unfold fkG rkP
        repeat' split
        all_goals omega
      rw [this, fk_sN_const]; simp
    rw [this, fk_sN_const]; simp
  have h3 := fk_sN_add (fun i => fkD e n i) (fun i => fkS (fun j => fkG (e j) (e i)) n) n
  have h4 := h3.symm.trans h2
  clear h2 h3
  generalize fkS (fun i => fkD e n i) n = a at *
  omega
theorem rank_dv {xs : List Int} {i : Nat} (hi : i < xs.length) : (rkL xs).getD i 0 = 1 + xs.length + fkD (fun j => xs.getD j 0) xs.length i := by
  have hx : xs[i]? = some (xs[i]'hi) := List.getElem?_eq_getElem hi
  rw [List.getD_eq_getElem?_getD, rkL_at hx, Option.getD_some, rkTo_sN]
  have : xs.getD i 0 = xs[i]'hi := by rw [List.getD_eq_getElem?_getD, hx]; rfl
  unfold fkD fkG
  dsimp only
  rw [this]
  have e : fkS (fun j => rkP xs[i] (xs.getD j 0) - 1) xs.length = fkS (fun j => rkP xs[i] (xs.getD j 0) + -1) xs.length := rfl
  rw [e, fk_sN_add, fk_sN_const]; omega
/-- The law's limit. -/
def lmO (n s i : Int) : Int := n * 2 * i * s - n * (n + 1) * s
def lmTo (n s : Int) : Nat → Int
  | 0 => 0
  | k + 1 => lmTo n s k + lmO n s (k + 1) * lmO n s (k + 1)
theorem lmTo_is (n s : Int) : ∀ k : Nat, 3 * lmTo n s k = n * n * (s * s) * ((k : Int) * (4 * k * k - 1) - 6 * n * k * k + 3 * k * n * n)
  | 0 => by simp [lmTo]
  | k + 1 => by
    have := lmTo_is n s k
    rw [lmTo, lmO]
    have e : (((k + 1 : Nat) : Int)) = (k : Int) + 1 := by omega
    rw [e]
    grind
theorem far_le (N : Nat) (m : List (List Int)) (hm : ∀ xs ∈ m, xs.length = N) : spTo N (suTo (rsL N m m.length) N) (rsL N m m.length) N ≤ lmTo N m.length N := by
  let d : Nat → Nat → Int := fun t i => fkD (fun j => (m.getD t []).getD j 0) N i
  have hr : ∀ i, i < N → (rsL N m m.length).getD i 0 = m.length * (1 + (N : Int)) + fkS (fun t => d t i) m.length := fun i hi => by
    rw [List.getD_eq_getElem?_getD, rsL_at hi, Option.getD_some, rsTo_sN]
    have : fkS (fun t => (rkL (m.getD t [])).getD i 0) m.length = fkS (fun t => (1 + (N : Int)) + d t i) m.length := fk_sN_congr fun t ht => by
      have hx : m[t]? = some (m[t]'ht) := List.getElem?_eq_getElem ht
      have e : m.getD t [] = m[t]'ht := by rw [List.getD_eq_getElem?_getD, hx]; rfl
      have hl : (m[t]'ht).length = N := hm _ (List.getElem_mem ht)
      have := rank_dv (xs := m[t]'ht) (i := i) (by omega)
      show _ = _ + fkD (fun j => (m.getD t []).getD j 0) N i
      rw [e, this, hl]
    rw [this, fk_sN_add, fk_sN_const]; grind
  have ha : suTo (rsL N m m.length) N = m.length * (1 + (N : Int)) * N := by
    rw [suTo_sN, fk_sN_congr hr, fk_sN_add, fk_sN_const, fk_sN_swap (fun i t => d t i)]
    have : fkS (fun t => fkS (fun i => d t i) N) m.length = fkS (fun _ => 0) m.length := fk_sN_congr fun t _ => fk_dv_zero _ _
    rw [this, fk_sN_const]; simp
  have hs : spTo N (suTo (rsL N m m.length) N) (rsL N m m.length) N = (N : Int) * N * fkS (fun i => fkS (fun t => d t i) m.length * fkS (fun t => d t i) m.length) N := by
    rw [spTo_sN, ← fk_sN_mul]
    refine fk_sN_congr fun i hi => ?_
    rw [hr i hi, ha, spO]; grind
  have h1 : fkS (fun i => fkS (fun t => d t i) m.length * fkS (fun t => d t i) m.length) N ≤ m.length * fkS (fun t => fkS (fun i => d t i * d t i) N) m.length := by
    rw [← fk_sN_swap (fun i t => d t i * d t i), ← fk_sN_mul]
    exact fk_sN_le fun i _ => fk_cauchy (fun t => d t i) m.length
  have h2 : 3 * fkS (fun t => fkS (fun i => d t i * d t i) N) m.length ≤ m.length * ((N : Int) * N * N - N) := by
    rw [← fk_sN_mul, Int.mul_comm (m.length : Int), ← fk_sN_const]
    · have := fk_sN_le (n := m.length) (f := fun t => 3 * fkS (fun i => d t i * d t i) N) (g := fun _ => ((N : Int) * N * N - N)) (fun t _ => fk_dv_var _ _)
      exact this
  have h3 := lmTo_is N m.length N
  have hT : (0 : Int) ≤ (m.length : Int) := Int.natCast_nonneg _
  have hN : (0 : Int) ≤ (N : Int) * N := Int.mul_nonneg (Int.natCast_nonneg _) (Int.natCast_nonneg _)
  rw [hs]
  have h4 := Int.mul_le_mul_of_nonneg_left h1 hN
  have h5 := Int.mul_le_mul_of_nonneg_left (Int.mul_le_mul_of_nonneg_left h2 hT) hN
  generalize fkS (fun i => fkS (fun t => d t i) m.length * fkS (fun t => d t i) m.length) N = X at *
  generalize fkS (fun t => fkS (fun i => d t i * d t i) N) m.length = Y at *
  generalize lmTo N m.length N = L at *
  have e1 : (N : Int) * N * (m.length * (3 * Y)) = 3 * ((N : Int) * N * (m.length * Y)) := by grind
  have e2 : 3 * L = (N : Int) * N * (m.length * (m.length * ((N : Int) * N * N - N))) := by rw [h3]; grind
  omega
/-- What the law asks of one taster's ranks. -/
theorem rk_two {xs : List Int} {i k : Nat} (hi : i < xs.length) (hk : k < xs.length) : (xs.getD k 0 < xs.getD i 0) ↔ ((rkL xs).getD i 0 < (rkL xs).getD k 0) := by
  have key : ∀ {a b : Nat}, a < xs.length → b < xs.length → xs.getD b 0 < xs.getD a 0 → (rkL xs).getD a 0 < (rkL xs).getD b 0 := fun {a b} ha hb h => by
    rw [rank_dv ha, rank_dv hb]
    have : fkD (fun j => xs.getD j 0) xs.length a < fkD (fun j => xs.getD j 0) xs.length b := by
      have gen : ∀ n, (∀ j, j < n → fkG (xs.getD a 0) (xs.getD j 0) ≤ fkG (xs.getD b 0) (xs.getD j 0)) ∧ fkS (fun j => fkG (xs.getD a 0) (xs.getD j 0)) n ≤ fkS (fun j => fkG (xs.getD b 0) (xs.getD j 0)) n ∧ (a < n → fkS (fun j => fkG (xs.getD a 0) (xs.getD j 0)) n < fkS (fun j => fkG (xs.getD b 0) (xs.getD j 0)) n) := by
        have hle : ∀ j, fkG (xs.getD a 0) (xs.getD j 0) ≤ fkG (xs.getD b 0) (xs.getD j 0) := fun j => by
          unfold fkG rkP
          repeat' split
          all_goals omega
        intro n
        induction n with
        | zero => exact ⟨fun j _ => hle j, Int.le_refl _, fun h => absurd h (Nat.not_lt_zero _)⟩
        | succ n ih =>
          refine ⟨fun j _ => hle j, by rw [fkS, fkS]; have := hle n; have := ih.2.1; omega, fun ha' => ?_⟩
          rw [fkS, fkS]
          have h1 := hle n
          by_cases e : a = n
          · subst e
            have hs : fkG (xs.getD a 0) (xs.getD a 0) < fkG (xs.getD b 0) (xs.getD a 0) := by
              unfold fkG rkP
              repeat' split
              all_goals omega
            have := ih.2.1; omega
          · have := ih.2.2 (by omega); omega
      exact (gen xs.length).2.2 ha
    omega
  constructor
  · exact key hi hk
  · intro h
    rcases Int.lt_trichotomy (xs.getD k 0) (xs.getD i 0) with h1 | h1 | h1
    · exact h1
    · exfalso
      rw [rank_dv hi, rank_dv hk] at h
      unfold fkD at h
      dsimp only at h
      rw [h1] at h; omega
    · have := key hk hi h1; omega
theorem rk_bnd {xs : List Int} {i : Nat} (hi : i < xs.length) : 2 ≤ (rkL xs).getD i 0 ∧ (rkL xs).getD i 0 ≤ 2 * xs.length := by
  rw [rank_dv hi]
  have gen : ∀ n : Nat, (-(n : Int) ≤ fkD (fun j => xs.getD j 0) n i ∧ fkD (fun j => xs.getD j 0) n i ≤ n) ∧ (i < n → 1 - (n : Int) ≤ fkD (fun j => xs.getD j 0) n i ∧ fkD (fun j => xs.getD j 0) n i ≤ n - 1) := by
    intro n
    induction n with
    | zero => exact ⟨by simp [fkD, fkS], fun h => absurd h (Nat.not_lt_zero _)⟩
    | succ n ih =>
      have hb : -1 ≤ fkG (xs.getD i 0) (xs.getD n 0) ∧ fkG (xs.getD i 0) (xs.getD n 0) ≤ 1 := by
        unfold fkG rkP
        repeat' split
        all_goals omega
      have e : fkD (fun j => xs.getD j 0) (n + 1) i = fkD (fun j => xs.getD j 0) n i + fkG (xs.getD i 0) (xs.getD n 0) := rfl
      refine ⟨by rw [e]; omega, fun h => ?_⟩
      by_cases hin : i = n
      · have h0 : fkG (xs.getD i 0) (xs.getD n 0) = 0 := by subst hin; simp [fkG, rkP]
        rw [e, h0]; omega
      · have := ih.2 (by omega); rw [e]; omega
  have := (gen xs.length).2 hi
  omega
theorem rk_sum (xs : List Int) : fkS (fun i => (rkL xs).getD i 0) xs.length = xs.length * (xs.length + 1) := by
  have : fkS (fun i => (rkL xs).getD i 0) xs.length = fkS (fun i => (1 + (xs.length : Int)) + fkD (fun j => xs.getD j 0) xs.length i) xs.length := fk_sN_congr fun i hi => rank_dv hi
  rw [this, fk_sN_add, fk_sN_const, fk_dv_zero]; grind
end Go.Proofs.YtlagnocglkoomaaDoor
