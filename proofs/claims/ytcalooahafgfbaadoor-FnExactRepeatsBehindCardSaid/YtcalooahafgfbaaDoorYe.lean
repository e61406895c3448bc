/-
  The least common multiple of all Every. No program.
-/
import Derived.Test.YtcalooahafgfbaaDoorYm
namespace Go.Proofs.YtcalooahafgfbaaDoor
open Go.RowKit

def lcmTo (l : List Wal) : Nat → Nat
  | 0 => 1
  | k + 1 => Nat.lcm (lcmTo l k) ((l.getD k ⟨0, 1, 0, 0, 0, 0⟩).ev.toNat)
theorem lcmTo_succ {l : List Wal} {k : Nat} {x : Wal} (h : l[k]? = some x) : lcmTo l (k + 1) = Nat.lcm (lcmTo l k) x.ev.toNat := by
  rw [lcmTo, List.getD_eq_getElem?_getD, h]; rfl
theorem lcmTo_pos {l : List Wal} (h : ∀ x ∈ l, 1 ≤ x.ev) : ∀ k, k ≤ l.length → 1 ≤ lcmTo l k
  | 0, _ => by simp [lcmTo]
  | k + 1, hk => by
    have hx : l[k]? = some l[k] := List.getElem?_eq_getElem (by omega)
    have h1 := h _ (List.getElem_mem (by omega : k < l.length))
    rw [lcmTo_succ hx]
    exact Nat.lcm_pos (lcmTo_pos h k (by omega)) (by omega)
theorem lcmTo_le {l : List Wal} (h : ∀ x ∈ l, 1 ≤ x.ev ∧ x.ev ≤ 100) : ∀ k, k ≤ l.length → lcmTo l k ≤ 100 ^ k
  | 0, _ => by simp [lcmTo]
  | k + 1, hk => by
    have hx : l[k]? = some l[k] := List.getElem?_eq_getElem (by omega)
    have h1 := h _ (List.getElem_mem (by omega : k < l.length))
    have ih := lcmTo_le h k (by omega)
    rw [lcmTo_succ hx]
    refine Nat.le_trans (Nat.le_of_dvd (Nat.mul_pos (lcmTo_pos (fun x hx => (h x hx).1) k (by omega)) (by omega)) (Nat.lcm_dvd_mul _ _)) ?_
    rw [Nat.pow_succ]
    exact Nat.mul_le_mul ih (by omega)
theorem lcmTo_mono {l : List Wal} (h : ∀ x ∈ l, 1 ≤ x.ev) {k : Nat} : ∀ j, k ≤ j → j ≤ l.length → lcmTo l k ≤ lcmTo l j
  | 0, hk, _ => by obtain rfl : k = 0 := by omega
                   exact Nat.le_refl _
  | j + 1, hk, hj => by
    by_cases e : k = j + 1
    · subst e; exact Nat.le_refl _
    · have hx : l[j]? = some l[j] := List.getElem?_eq_getElem (by omega)
      refine Nat.le_trans (lcmTo_mono h j (by omega) (by omega)) ?_
      have hp := lcmTo_pos h (j + 1) hj
      rw [lcmTo_succ hx] at hp ⊢
      exact Nat.le_of_dvd hp (Nat.dvd_lcm_left _ _)
theorem div_gcd_mul (a b : Nat) : a / Nat.gcd a b * b = Nat.lcm a b := by
  rw [Nat.lcm, Nat.div_mul_right_comm (Nat.gcd_dvd_left a b)]
def lcmA (l : List Wal) : Nat := lcmTo l l.length
/-- The code of AllWalkEvery; the number. -/
def aeC (n : Int) (l : List Wal) : Int := if vsOk n l = true then (if lcmA l ≤ 1000000 then 0 else 3) else 1
def aeN (n : Int) (l : List Wal) : Int := if aeC n l = 0 then (lcmA l : Int) else 0
end Go.Proofs.YtcalooahafgfbaaDoor
