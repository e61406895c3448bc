/-
  When rows are as they were: mathematics. No program in it.
-/
import Derived.Test.YtcalooahafgfbaaDoorDs0
import Derived.Test.YtcalooahafgfbaaDoorYe
namespace Go.Proofs.YtcalooahafgfbaaDoor
open Go.ChangeShapes Go.WideShapes Go.ChangeAt Go.RowKit Go.Deep

def rbM (all : Nat) (x : Wal) : Int := (all : Int) / x.ev
def rbZ (n : Nat) : List Int := List.replicate n 0
def rbC (n : Nat) (l : List Wal) (i : Nat) : Int := bsm n l (rbM (lcmA l)) i l.length
/-- The row when all have come as often, so many times. -/
def rbR (n : Nat) (l : List Wal) (k : Nat) : List Int := tnR (rbZ n) (fun i => (k : Int) * rbC n l i)
def rbU (n : Nat) (l : List Wal) (k : Nat) : Bool := (rbR n l k).all (fun a => decide (a = 0))
def rbK (n : Nat) (l : List Wal) : Nat := ((List.range 8).find? (fun j => rbU n l (j + 1))).getD 7 + 1
def rbN (n : Int) (l : List Wal) : Int := if aeC n l = 0 then ((rbK n.toNat l * lcmA l : Nat) : Int) else 0
theorem rbZ_in (n : Nat) : ∀ a ∈ rbZ n, 0 ≤ a ∧ a ≤ 7 := fun a h => by
  have := List.eq_of_mem_replicate h; omega
theorem rbR_len (n : Nat) (l : List Wal) (k : Nat) : (rbR n l k).length = n := by rw [rbR, tnR_len, rbZ, List.length_replicate]
theorem rbR_at {n : Nat} {l : List Wal} {k i : Nat} (h : i < n) : (rbR n l k)[i]? = some (((k : Int) * rbC n l i) % 8) := by
  have : (rbZ n)[i]? = some 0 := by rw [rbZ, List.getElem?_replicate, if_pos h]
  rw [rbR, tnR_get _ this, Int.zero_add]
theorem rbR_in (n : Nat) (l : List Wal) (k : Nat) : ∀ a ∈ rbR n l k, 0 ≤ a ∧ a ≤ 7 := fun a h => by
  obtain ⟨i, hi, rfl⟩ := List.mem_iff_getElem.1 h
  have h2 := rbR_at (l := l) (k := k) (i := i) (by rwa [rbR_len] at hi)
  rw [List.getElem?_eq_getElem hi] at h2
  rw [Option.some.inj h2]; omega
theorem rbR_one (n : Nat) (l : List Wal) : rbR n l 1 = tnA n l (rbM (lcmA l)) (rbZ n) l.length := by
  rw [tnA_sum (rbZ_in n), rbR]; simp [rbC]
theorem rbR_succ (n : Nat) (l : List Wal) (k : Nat) : tnA n l (rbM (lcmA l)) (rbR n l k) l.length = rbR n l (k + 1) := by
  rw [tnA_sum (rbR_in n l k), rbR, tnR_tnR, rbR]
  congr 1
  funext i
  rw [show (bsm n l (rbM (lcmA l)) i l.length) = rbC n l i from rfl]
  push_cast
  rw [Int.add_mul, Int.one_mul]
theorem rbU_eight (n : Nat) (l : List Wal) : rbU n l 8 = true := by
  rw [rbU, List.all_eq_true]
  intro a h
  obtain ⟨i, hi, rfl⟩ := List.mem_iff_getElem.1 h
  have h2 := rbR_at (l := l) (k := 8) (i := i) (by rwa [rbR_len] at hi)
  rw [List.getElem?_eq_getElem hi] at h2
  rw [Option.some.inj h2]
  have : (((8 : Nat) : Int) * rbC n l i) % 8 = 0 := by rw [show ((8 : Nat) : Int) = 8 from rfl, Int.mul_comm]; exact Int.mul_emod_left _ _
  simp [this]
theorem rbK_is {n : Nat} {l : List Wal} {k : Nat} (h1 : 1 ≤ k) (h8 : k ≤ 8) (hk : rbU n l k = true) (hn : ∀ j, 1 ≤ j → j < k → rbU n l j = false) : rbK n l = k := by
  have : (List.range 8).find? (fun j => rbU n l (j + 1)) = some (k - 1) := by
    rw [List.find?_range_eq_some]
    refine ⟨by rw [show k - 1 + 1 = k from by omega]; exact hk, List.mem_range.2 (by omega), fun j hj => by simp [hn (j + 1) (by omega) (by omega)]⟩
  rw [rbK, this]; simp; omega
theorem lcm_dvd {l : List Wal} {x : Wal} : ∀ {k i : Nat}, i < k → l[i]? = some x → x.ev.toNat ∣ lcmTo l k
  | k + 1, i, hi, hx => by
    by_cases hk : k < l.length
    · have hy : l[k]? = some l[k] := List.getElem?_eq_getElem hk
      rw [lcmTo_succ hy]
      by_cases e : i = k
      · subst e
        rw [hy] at hx
        obtain rfl := Option.some.inj hx
        exact Nat.dvd_lcm_right _ _
      · exact Nat.dvd_trans (lcm_dvd (k := k) (by omega) hx) (Nat.dvd_lcm_left _ _)
    · have hi2 := (List.getElem?_eq_some_iff.1 hx).1
      have ih := lcm_dvd (l := l) (x := x) (k := k) (i := i) (by omega) hx
      have : l.getD k ⟨0, 1, 0, 0, 0, 0⟩ = ⟨0, 1, 0, 0, 0, 0⟩ := by simp [List.getD_eq_getElem?_getD, List.getElem?_eq_none (show l.length ≤ k by omega)]
      unfold lcmTo
      exact Nat.dvd_trans ih (Nat.dvd_lcm_left _ _)
theorem rbM_window {l : List Wal} {x : Wal} (hx : x ∈ l) (he : 1 ≤ x.ev) {f : Int} (hf : x.fi ≤ f - 1) : mW f (f - 1 + lcmA l) x = rbM (lcmA l) x := by
  obtain ⟨i, hi, hg⟩ := List.mem_iff_getElem.1 hx
  have hd : x.ev.toNat ∣ lcmA l := lcm_dvd hi (by rw [List.getElem?_eq_getElem hi, hg])
  obtain ⟨q, hq⟩ := hd
  have hq2 : ((lcmA l : Nat) : Int) = x.ev * q := by
    rw [hq]; push_cast; rw [Int.toNat_of_nonneg (by omega)]
  unfold mW rbM unD
  rw [if_neg (by omega), if_neg (by omega), hq2, show f - 1 + x.ev * q - x.fi = (f - 1 - x.fi) + x.ev * q from by omega, Int.add_mul_ediv_left _ _ (by omega), Int.mul_ediv_cancel_left _ (by omega)]
  omega
theorem tnA_congrB {n : Nat} {l : List Wal} {m m' : Wal → Int} {r : List Int} (h : ∀ x ∈ l, m x = m' x) : ∀ k, k ≤ l.length → tnA n l m r k = tnA n l m' r k
  | 0, _ => rfl
  | k + 1, hk => by
    have hx : l[k]? = some l[k] := List.getElem?_eq_getElem (by omega)
    rw [tnA_succ hx, tnA_succ hx, tnA_congrB h k (by omega), h _ (List.getElem_mem _)]
theorem rb_turn {n : Nat} {l : List Wal} (he : ∀ x ∈ l, 1 ≤ x.ev ∧ x.fi ≤ 10000) {f : Int} (hf : 10001 ≤ f) (k : Nat) : tnA n l (mW f (f - 1 + lcmA l)) (rbR n l k) l.length = rbR n l (k + 1) := by
  rw [tnA_congrB (m' := rbM (lcmA l)) (fun x hx => rbM_window hx (he x hx).1 (by have := (he x hx).2; omega)) _ (Nat.le_refl _), rbR_succ]
theorem rbR_zero (n : Nat) (l : List Wal) : rbR n l 0 = rbZ n := by
  rw [rbR]
  have : (fun i => ((0 : Nat) : Int) * rbC n l i) = fun _ => 0 := funext fun i => by simp
  rw [this, tnR_zero (rbZ_in n)]

end Go.Proofs.YtcalooahafgfbaaDoor
