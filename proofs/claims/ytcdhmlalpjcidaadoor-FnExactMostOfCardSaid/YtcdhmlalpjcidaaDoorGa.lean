/-
  Bottles in order: what a step of an insertion makes of a list. No program in it.
-/
import Derived.Test.YtcdhmlalpjcidaaDoorCrate
namespace Go.Proofs.YtcdhmlalpjcidaaDoor
open Go.RowKit

/-- Does a bottle come ahead of another one? -/
def ltB (a b : Bot) : Bool := decide (a.1 < b.1) || (decide (a.1 = b.1) && decide (a.2 < b.2))
theorem ltB_iff {a b : Bot} : ltB a b = true ↔ a.1 < b.1 ∨ (a.1 = b.1 ∧ a.2 < b.2) := by simp [ltB]
theorem ltB_no {a b : Bot} : ltB a b = false ↔ ¬ (a.1 < b.1 ∨ (a.1 = b.1 ∧ a.2 < b.2)) := by rw [← ltB_iff]; cases ltB a b <;> simp
theorem ltB_asymm {a b : Bot} (h : ltB a b = true) : ltB b a = false := by rw [ltB_no]; rw [ltB_iff] at h; omega
theorem ltB_self (a : Bot) : ltB a a = false := by rw [ltB_no]; omega
theorem ltB_le {a b c : Bot} (h1 : ltB b a = false) (h2 : ltB c b = false) : ltB c a = false := by rw [ltB_no] at *; omega
theorem ltB_eq {a b : Bot} (h1 : ltB b a = false) (h2 : ltB a b = false) : a = b := by
  rw [ltB_no] at *
  exact Prod.ext (by omega) (by omega)
/-- The first n are in order. -/
def SrtTo (Y : List Bot) (n : Nat) : Prop := ∀ p q a b, p < q → q < n → Y[p]? = some a → Y[q]? = some b → ltB b a = false
theorem SrtTo.tail {a : Bot} {Y : List Bot} (h : SrtTo (a :: Y) (a :: Y).length) : SrtTo Y Y.length :=
  fun p q x y hpq hq hx hy => h (p + 1) (q + 1) x y (by omega) (by simp only [List.length_cons]; omega) hx hy
theorem SrtTo.head {a b : Bot} {Y : List Bot} (h : SrtTo (a :: Y) (a :: Y).length) (hb : b ∈ a :: Y) : ltB b a = false := by
  rcases List.mem_cons.1 hb with rfl | hb
  · exact ltB_self _
  · obtain ⟨q, hq, he⟩ := List.mem_iff_getElem.1 hb
    exact h 0 (q + 1) a b (by omega) (by simp only [List.length_cons]; omega) rfl (by rw [List.getElem?_cons_succ, List.getElem?_eq_getElem hq, he])
/-- Lists in order that are alike but for their order are the same. -/
theorem SrtTo.same : ∀ {Y Z : List Bot}, Y.Perm Z → SrtTo Y Y.length → SrtTo Z Z.length → Y = Z
  | [], Z, hp, _, _ => (List.perm_nil.1 hp.symm).symm
  | a :: Y, Z, hp, hy, hz => by
    cases Z with
    | nil => exact absurd (List.perm_nil.1 hp) (by simp)
    | cons b Z =>
      have e : a = b := ltB_eq (hy.head (hp.symm.subset (List.mem_cons_self))) (hz.head (hp.subset (List.mem_cons_self)))
      subst e
      rw [SrtTo.same ((List.perm_cons a).1 hp) hy.tail hz.tail]
theorem perm_swap {Z : List Bot} {j k : Nat} {x y : Bot} (hjk : j < k) (hk : k < Z.length) (hj : Z[j]? = some y) : ((Z.set k y).set j x).Perm (Z.set k x) := by
  obtain ⟨hjl, he⟩ := List.getElem?_eq_some_iff.1 hj
  rw [List.perm_iff_count]
  intro a
  rw [List.count_set (by rw [List.length_set]; exact hjl), List.count_set hk, List.count_set hk, List.getElem_set_ne (by omega), he]
  omega
/-- Between two steps: x is out of the list, the place kk is free. -/
def InsAt (X Z : List Bot) (x : Bot) (i kk : Nat) : Prop :=
  kk ≤ i ∧ i < Z.length ∧ (Z.set kk x).Perm X ∧ (∀ p q a b, p < q → q ≤ i → p ≠ kk → q ≠ kk → Z[p]? = some a → Z[q]? = some b → ltB b a = false) ∧ ∀ q b, kk < q → q ≤ i → Z[q]? = some b → ltB x b = true
theorem InsAt.start {X Z : List Bot} {x : Bot} {i : Nat} (hp : Z.Perm X) (hs : SrtTo Z i) (hx : Z[i]? = some x) : InsAt X Z x i i := by
  obtain ⟨hi, he⟩ := List.getElem?_eq_some_iff.1 hx
  refine ⟨Nat.le_refl _, hi, by rw [← he, List.set_getElem_self]; exact hp, fun p q a b hpq hq hp' hq' ha hb => hs p q a b hpq (by omega) ha hb, fun q b h1 h2 => by omega⟩
theorem InsAt.step {X Z : List Bot} {x y : Bot} {i kk : Nat} (h : InsAt X Z x i (kk + 1)) (hy : Z[kk]? = some y) (hlt : ltB x y = true) : InsAt X (Z.set (kk + 1) y) x i kk := by
  obtain ⟨h1, h2, h3, h4, h5⟩ := h
  have hkl : kk + 1 < Z.length := by omega
  refine ⟨by omega, by rw [List.length_set]; exact h2, (perm_swap (by omega) hkl hy).trans h3, fun p q a b hpq hq hp' hq' ha hb => ?_, fun q b hq1 hq2 hb => ?_⟩
  · by_cases ep : p = kk + 1
    · subst ep
      rw [List.getElem?_set_self hkl] at ha
      cases ha
      rw [List.getElem?_set_ne (by omega)] at hb
      exact h4 kk q y b (by omega) hq (by omega) (by omega) hy hb
    · rw [List.getElem?_set_ne (by omega)] at ha
      by_cases eq : q = kk + 1
      · subst eq
        rw [List.getElem?_set_self hkl] at hb
        cases hb
        exact h4 p kk a y (by omega) (by omega) ep (by omega) ha hy
      · rw [List.getElem?_set_ne (by omega)] at hb
        exact h4 p q a b hpq hq ep eq ha hb
  · by_cases eq : q = kk + 1
    · subst eq
      rw [List.getElem?_set_self hkl] at hb
      cases hb; exact hlt
    · rw [List.getElem?_set_ne (by omega)] at hb
      exact h5 q b (by omega) hq2 hb
theorem InsAt.done {X Z : List Bot} {x : Bot} {i kk : Nat} (h : InsAt X Z x i kk) (hd : ∀ j y, j + 1 = kk → Z[j]? = some y → ltB x y = false) : (Z.set kk x).Perm X ∧ SrtTo (Z.set kk x) (i + 1) := by
  obtain ⟨h1, h2, h3, h4, h5⟩ := h
  have hkl : kk < Z.length := by omega
  refine ⟨h3, fun p q a b hpq hq ha hb => ?_⟩
  by_cases ep : p = kk
  · subst ep
    rw [List.getElem?_set_self hkl] at ha
    cases ha
    rw [List.getElem?_set_ne (by omega)] at hb
    exact ltB_asymm (h5 q b hpq (by omega) hb)
  · rw [List.getElem?_set_ne (by omega)] at ha
    by_cases eq : q = kk
    · subst eq
      rw [List.getElem?_set_self hkl] at hb
      cases hb
      obtain ⟨j, rfl⟩ : ∃ j, q = j + 1 := ⟨q - 1, by omega⟩
      obtain ⟨y, hy⟩ : ∃ y, Z[j]? = some y := ⟨_, List.getElem?_eq_getElem (by omega)⟩
      have hxy := hd j y rfl hy
      by_cases epj : p = j
      · subst epj; rw [ha] at hy; cases hy; exact hxy
      · exact ltB_le (h4 p j a y (by omega) (by omega) ep (by omega) ha hy) hxy
    · rw [List.getElem?_set_ne (by omega)] at hb
      exact h4 p q a b hpq (by omega) ep eq ha hb
end Go.Proofs.YtcdhmlalpjcidaaDoor
