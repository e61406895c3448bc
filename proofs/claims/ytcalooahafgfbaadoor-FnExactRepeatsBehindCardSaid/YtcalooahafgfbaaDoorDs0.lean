/-
  Days together and days one by one: what walkers turn on a day, and on several. No program.
-/
import Derived.Test.YtcalooahafgfbaaDoorYr3
import Derived.Test.YtcalooahafgfbaaDoorYd
namespace Go.Proofs.YtcalooahafgfbaaDoor
open Go.RowKit Go.Deep

def onB (d : Int) (x : Wal) : Int := if onD x d = true then 1 else 0
theorem un_step {x : Wal} (he : 1 ≤ x.ev) (d : Int) : unD x d = unD x (d - 1) + onB d x := by
  unfold unD onB onD
  by_cases h : d < x.fi
  · rw [if_pos h, if_pos (by omega), decide_eq_false (by omega : ¬ x.fi ≤ d)]; rfl
  rw [if_neg h, decide_eq_true (by omega : x.fi ≤ d), Bool.true_and]
  by_cases h2 : d - 1 < x.fi
  · have e : d - x.fi = 0 := by omega
    rw [if_pos h2, e, Int.zero_ediv, Int.zero_emod]; simp
  rw [if_neg h2]
  obtain ⟨a, ha⟩ : ∃ a, d - x.fi = a := ⟨_, rfl⟩
  rw [ha, show d - 1 - x.fi = a - 1 from by omega]
  have ha1 : 1 ≤ a := by omega
  have hd := Int.emod_add_mul_ediv a x.ev
  have h0 := Int.emod_nonneg a (by omega : x.ev ≠ 0)
  have h3 := Int.emod_lt_of_pos a (by omega : 0 < x.ev)
  by_cases hz : a % x.ev = 0
  · rw [hz, decide_eq_true rfl, if_pos rfl]
    have : (a - 1) / x.ev = a / x.ev - 1 := ((Int.ediv_emod_unique (a := a - 1) (b := x.ev) (r := x.ev - 1) (q := a / x.ev - 1) (by omega)).2 ⟨by rw [Int.mul_sub, Int.mul_one]; omega, by omega, by omega⟩).1
    omega
  · rw [decide_eq_false hz, if_neg (by decide)]
    have : (a - 1) / x.ev = a / x.ev := ((Int.ediv_emod_unique (a := a - 1) (b := x.ev) (r := a % x.ev - 1) (q := a / x.ev) (by omega)).2 ⟨by omega, by omega, by omega⟩).1
    omega
def bsm (n : Nat) (l : List Wal) (m : Wal → Int) (i : Nat) : Nat → Int
  | 0 => 0
  | k + 1 => bsm n l m i k + byW n (l.getD k ⟨0, 1, 0, 0, 0, 0⟩) (m (l.getD k ⟨0, 1, 0, 0, 0, 0⟩)) i
theorem tnA_sum {n : Nat} {l : List Wal} {m : Wal → Int} {r : List Int} (h : ∀ a ∈ r, 0 ≤ a ∧ a ≤ 7) : ∀ k, tnA n l m r k = tnR r (fun i => bsm n l m i k)
  | 0 => (tnR_zero h).symm
  | k + 1 => by rw [tnA, tnA_sum h k, tnR_tnR]; rfl
theorem byW_add (n : Nat) (x : Wal) (a b : Int) (i : Nat) : byW n x (a + b) i = byW n x a i + byW n x b i := by
  unfold byW; rw [Int.mul_add, Int.add_mul]
theorem bsm_add (n : Nat) (l : List Wal) (m m' : Wal → Int) (i : Nat) : ∀ k, bsm n l (fun x => m x + m' x) i k = bsm n l m i k + bsm n l m' i k
  | 0 => rfl
  | k + 1 => by rw [bsm, bsm, bsm, bsm_add n l m m' i k, byW_add]; omega
theorem tnA_tnA {n : Nat} {l : List Wal} {m m' : Wal → Int} {r : List Int} (h : ∀ a ∈ r, 0 ≤ a ∧ a ≤ 7) (k : Nat) : tnA n l m' (tnA n l m r k) k = tnA n l (fun x => m x + m' x) r k := by
  rw [tnA_sum (tnA_in h k), tnA_sum h, tnR_tnR, tnA_sum h]
  congr 1
  funext i
  rw [bsm_add]
theorem bsm_zero (n : Nat) (l : List Wal) (i : Nat) : ∀ k, bsm n l (fun _ => 0) i k = 0
  | 0 => rfl
  | k + 1 => by rw [bsm, bsm_zero n l i k]; simp [byW]
theorem tnA_zero {n : Nat} {l : List Wal} {r : List Int} (h : ∀ a ∈ r, 0 ≤ a ∧ a ≤ 7) (k : Nat) : tnA n l (fun _ => 0) r k = r := by
  rw [tnA_sum h]
  have : (fun i => bsm n l (fun _ => 0) i k) = fun _ => 0 := funext fun i => bsm_zero n l i k
  rw [this, tnR_zero h]
/-- The row behind the days from f to d - 1. -/
theorem days_none {n : Nat} {l : List Wal} {r : List Int} (h : ∀ a ∈ r, 0 ≤ a ∧ a ≤ 7) (f : Int) : tnA n l (mW f (f - 1)) r l.length = r := by
  have : mW f (f - 1) = fun _ => 0 := funext fun x => by unfold mW; omega
  rw [this, tnA_zero h]
theorem days_step {n : Nat} {l : List Wal} {r : List Int} (h : ∀ a ∈ r, 0 ≤ a ∧ a ≤ 7) (he : ∀ x ∈ l, 1 ≤ x.ev) (f d : Int) : tnA n l (onB d) (tnA n l (mW f (d - 1)) r l.length) l.length = tnA n l (mW f d) r l.length := by
  rw [tnA_tnA h]
  refine tnA_congr (fun x hx => ?_) _ (Nat.le_refl _)
  have := un_step (he x hx) d
  unfold mW; omega
def dsO (r : List Int) (l : List Wal) (f t : Int) : Option Nat := firstO [rwO r l, spO f t]
theorem dsO_lt {r : List Int} {l : List Wal} {f t : Int} : ∀ i, dsO r l f t = some i → i < 7 := by
  refine firstO_lt ?_
  simp only [List.mem_cons, List.not_mem_nil, or_false]
  rintro o (rfl | rfl)
  · exact rwO_lt
  · exact spO_lt
def dsC (r : List Int) (l : List Wal) (f t : Int) : Int := cdO (dsO r l f t)
def dsL (r : List Int) (l : List Wal) (f t : Int) : List Int := if dsC r l f t = 0 then tnA r.length l (mW f t) r l.length else []
theorem dsL_len (r : List Int) (l : List Wal) (f t : Int) : (dsL r l f t).length ≤ r.length := by
  unfold dsL; split
  · rw [tnA_len]; exact Nat.le_refl _
  · simp
theorem ds_bad {r : List Int} {l : List Wal} {f t : Int} {i : Nat} (h : dsO r l f t = some i) : dsC r l f t = cdN i ∧ dsL r l f t = [] := by
  have h1 : dsC r l f t = cdN i := by rw [dsC, h]; rfl
  exact ⟨h1, by rw [dsL, if_neg (by rw [h1]; exact cdN_ne)]⟩
theorem rw_ok {r : List Int} {l : List Wal} (h : rwO r l = none) : yOk r = true ∧ vsOk r.length l = true := by
  have hy : yOk r = true := by
    cases hy : yOk r
    · rw [rwO, hy] at h; cases h
    · rfl
  exact ⟨hy, by
    cases hv : vsOk r.length l
    · rw [rwO, hy, hv] at h; cases h
    · rfl⟩
theorem ds_ok {r : List Int} {l : List Wal} {f t : Int} (h : dsO r l f t = none) : dsC r l f t = 0 ∧ dsL r l f t = tnA r.length l (mW f t) r l.length ∧ yOk r = true ∧ vsOk r.length l = true ∧ spB f t = true ∧ t - f + 1 ≤ 400 := by
  have h1 : dsC r l f t = 0 := by rw [dsC, h]; rfl
  have h0 : rwO r l = none := by
    cases hr : rwO r l with
    | none => rfl
    | some i => rw [dsO, hr] at h; cases h
  have h2 : spO f t = none := by
    cases hs : spO f t with
    | none => rfl
    | some i => rw [dsO, h0, hs] at h; cases h
  have hs : spB f t = true := by
    cases hs : spB f t
    · rw [spO_no hs] at h2; cases h2
    · rfl
  rw [spO_yes hs] at h2
  obtain ⟨hy, hv⟩ := rw_ok h0
  refine ⟨h1, by rw [dsL, if_pos h1], hy, hv, hs, ?_⟩
  cases hd : decide (t - f + 1 ≤ 400)
  · rw [hd] at h2; cases h2
  · exact of_decide_eq_true hd
theorem ds_code (r : List Int) (l : List Wal) (f t : Int) : spC (if yOk r = true then akV r.length l (spB f t) else 1) f t = dsC r l f t := by
  cases hy : yOk r
  · rw [if_neg (by decide), spC, if_neg (by decide), dsC, dsO, rwO, hy]; rfl
  rw [if_pos rfl]
  cases hv : vsOk r.length l
  · rw [show akV r.length l (spB f t) = 1 from by simp [akV, hv], spC, if_neg (by decide), dsC, dsO, rwO, hy, hv]; rfl
  cases hd : spB f t
  · rw [show akV r.length l false = 2 from by simp [akV, hv], spC, if_neg (by decide), dsC, dsO, rwO, hy, hv, spO_no hd]; rfl
  · rw [show akV r.length l true = 0 from by simp [akV, hv], spC, if_pos rfl, dsC, dsO, rwO, hy, hv, spO_yes hd]
    by_cases h4 : t - f + 1 ≤ 400
    · rw [if_pos h4, decide_eq_true h4]; rfl
    · rw [if_neg h4, decide_eq_false h4]; rfl
theorem ds_day (d : Int) : spB d d = inS d := by simp [spB]
theorem ds_code1 (r : List Int) (l : List Wal) (d : Int) : (if yOk r = true then akV r.length l (inS d) else 1) = dsC r l d d := by
  rw [← ds_code, ds_day]
  generalize (if yOk r = true then akV r.length l (inS d) else 1) = u
  unfold spC
  split
  · rw [if_pos (by omega)]; assumption
  · rfl
end Go.Proofs.YtcalooahafgfbaaDoor
