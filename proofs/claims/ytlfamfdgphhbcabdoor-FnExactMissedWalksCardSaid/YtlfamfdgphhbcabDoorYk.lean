/-
  Meetings of two walkers: the first day from F on which both come, looked for day by day (the model's way) and from one of the first's days to the next (the program's). No program.
-/
import Derived.Test.YtlfamfdgphhbcabDoorYm
namespace Go.Proofs.YtlfamfdgphhbcabDoor

def hitD (a b : Wal) (t : Int) : Bool := onD a t && onD b t
def mdF (a b : Wal) (f : Int) : Int := if f < (if a.fi < b.fi then b.fi else a.fi) then (if a.fi < b.fi then b.fi else a.fi) else f
/-- The first hit of the days F, F + 1, .. so many. -/
def fstH (p : Int → Bool) (F : Int) : Nat → Option Int
  | 0 => none
  | k + 1 => match fstH p F k with
    | some t => some t
    | none => if p (F + k) then some (F + k) else none
theorem fstH_none {p : Int → Bool} {F : Int} : ∀ k, (∀ j : Nat, j < k → p (F + j) = false) → fstH p F k = none
  | 0, _ => rfl
  | k + 1, h => by
    rw [fstH, fstH_none k (fun j hj => h j (by omega))]
    simp [h k (by omega)]
theorem fstH_some {p : Int → Bool} {F : Int} {k : Nat} (h : ∀ j : Nat, j < k → p (F + j) = false) (hk : p (F + k) = true) : ∀ n, k < n → fstH p F n = some (F + k)
  | 0, hn => by omega
  | n + 1, hn => by
    by_cases e : k = n
    · subst e
      rw [fstH, fstH_none k h]
      simp [hk]
    · rw [fstH, fstH_some h hk n (by omega)]
def mdO (a b : Wal) (f : Int) : Option Int := fstH (hitD a b) (mdF a b f) (a.ev * b.ev).toNat
/-- The first of a's days from the later of f and b's first. -/
def mdN (a b : Wal) (f : Int) : Int := a.fi + unD a ((if f < b.fi then b.fi else f) - 1) * a.ev

theorem onD_iff {x : Wal} {d : Int} : onD x d = true ↔ x.fi ≤ d ∧ (d - x.fi) % x.ev = 0 := by
  simp [onD]
theorem mdN_facts {a b : Wal} {f : Int} (ha : 1 ≤ a.ev) : mdF a b f ≤ mdN a b f ∧ mdN a b f < mdF a b f + a.ev ∧ (mdN a b f - a.fi) % a.ev = 0 ∧ a.fi ≤ mdN a b f := by
  obtain ⟨m, hm⟩ : ∃ m, (if f < b.fi then b.fi else f) = m := ⟨_, rfl⟩
  have hF : mdF a b f = if m < a.fi then a.fi else m := by
    unfold mdF; subst hm; split <;> split <;> (repeat' split) <;> omega
  unfold mdN; rw [hm, hF]; unfold unD
  obtain ⟨E, hE⟩ : ∃ E, a.ev = E := ⟨_, rfl⟩
  obtain ⟨A, hA⟩ : ∃ A, a.fi = A := ⟨_, rfl⟩
  rw [hE] at ha
  rw [hE, hA]
  by_cases h : m - 1 < A
  · rw [if_pos h, Int.zero_mul, Int.add_zero, Int.sub_self, Int.zero_emod]
    split <;> omega
  · rw [if_neg h, if_neg (by omega)]
    have q1 := Int.emod_add_mul_ediv (m - 1 - A) E
    have q2 := Int.emod_nonneg (m - 1 - A) (by omega : E ≠ 0)
    have q3 := Int.emod_lt_of_pos (m - 1 - A) (by omega : 0 < E)
    obtain ⟨Q, hQ⟩ : ∃ Q, (m - 1 - A) / E = Q := ⟨_, rfl⟩
    rw [hQ] at q1 ⊢
    have e1 : (Q + 1) * E = E * Q + E := by rw [Int.add_mul, Int.one_mul, Int.mul_comm]
    have e2 : (A + (Q + 1) * E - A) % E = 0 := by
      rw [show A + (Q + 1) * E - A = (Q + 1) * E by omega, Int.mul_emod_left]
    refine ⟨?_, ?_, e2, ?_⟩ <;> rw [e1] <;> omega
/-- a comes on the day so many of its days behind mdN, and on no other day from F on. -/
theorem onA_step {a b : Wal} {f : Int} (ha : 1 ≤ a.ev) (k : Nat) : onD a (mdN a b f + k * a.ev) = true := by
  obtain ⟨h1, h2, h3, h4⟩ := mdN_facts (b := b) (f := f) ha
  have h5 : 0 ≤ (k : Int) * a.ev := Int.mul_nonneg (Int.natCast_nonneg _) (by omega)
  rw [onD_iff]
  refine ⟨by omega, ?_⟩
  rw [show mdN a b f + k * a.ev - a.fi = (mdN a b f - a.fi) + k * a.ev by omega, Int.add_mul_emod_self_right, h3]
theorem onA_from {a b : Wal} {f : Int} (ha : 1 ≤ a.ev) {t : Int} (ht : mdF a b f ≤ t) (h : onD a t = true) : ∃ i : Nat, t = mdN a b f + i * a.ev := by
  obtain ⟨h1, h2, h3, h4⟩ := mdN_facts (b := b) (f := f) ha
  obtain ⟨-, hm⟩ := onD_iff.1 h
  obtain ⟨N, hN⟩ : ∃ N, mdN a b f = N := ⟨_, rfl⟩
  obtain ⟨E, hE⟩ : ∃ E, a.ev = E := ⟨_, rfl⟩
  obtain ⟨A, hA⟩ : ∃ A, a.fi = A := ⟨_, rfl⟩
  obtain ⟨G, hG⟩ : ∃ G, mdF a b f = G := ⟨_, rfl⟩
  rw [hE] at ha
  rw [hA, hE] at hm
  rw [hN, hA, hE] at h3
  rw [hN, hE] at h2 ⊢
  rw [hG] at h2 ht
  have d0 : (t - N) % E = 0 := by
    have := Int.sub_emod (t - A) (N - A) E
    rw [hm, h3, Int.sub_zero, Int.zero_emod] at this
    rw [← this]; congr 1; omega
  have q1 := Int.emod_add_mul_ediv (t - N) E
  obtain ⟨Q, hQ⟩ : ∃ Q, (t - N) / E = Q := ⟨_, rfl⟩
  rw [hQ, d0, Int.zero_add] at q1
  have hQ0 : 0 ≤ Q := by
    by_cases hn : 0 ≤ Q
    · exact hn
    · have : E * Q ≤ E * (-1) := Int.mul_le_mul_of_nonneg_left (by omega) (by omega)
      omega
  refine ⟨Q.toNat, ?_⟩
  rw [Int.toNat_of_nonneg hQ0, Int.mul_comm]
  omega
theorem mdF_ge {a b : Wal} {f : Int} : f ≤ mdF a b f ∧ a.fi ≤ mdF a b f ∧ b.fi ≤ mdF a b f := by
  unfold mdF; (repeat' split) <;> omega
/-- The program's way finds what the model's does. -/
theorem md_some {a b : Wal} {f : Int} (ha : 1 ≤ a.ev) (hb : 1 ≤ b.ev) {k : Nat} (hk : (k : Int) < b.ev) (h0 : ∀ j : Nat, j < k → onD b (mdN a b f + j * a.ev) = false) (h : onD b (mdN a b f + k * a.ev) = true) : mdO a b f = some (mdN a b f + k * a.ev) := by
  obtain ⟨h1, h2, -, -⟩ := mdN_facts (b := b) (f := f) ha
  have hs := onA_step (b := b) (f := f) ha k
  have hp : 0 ≤ (k : Int) * a.ev := Int.mul_nonneg (Int.natCast_nonneg _) (by omega)
  have hq : (k : Int) * a.ev ≤ (b.ev - 1) * a.ev := Int.mul_le_mul_of_nonneg_right (by omega) (by omega)
  rw [Int.sub_mul, Int.one_mul, Int.mul_comm b.ev] at hq
  obtain ⟨m, hm⟩ : ∃ m : Nat, mdN a b f + k * a.ev = mdF a b f + m := ⟨(mdN a b f + k * a.ev - mdF a b f).toNat, by omega⟩
  rw [mdO, hm]
  refine fstH_some (fun j hj => ?_) ?_ _ (by omega)
  · cases hc : hitD a b (mdF a b f + j) with
    | false => rfl
    | true =>
      obtain ⟨ca, cb⟩ := (Bool.and_eq_true _ _ ▸ hc : onD a (mdF a b f + j) = true ∧ onD b (mdF a b f + j) = true)
      obtain ⟨i, hi⟩ := onA_from (b := b) (f := f) ha (by omega) ca
      have hik : i < k := by
        by_cases hn : i < k
        · exact hn
        · have : (k : Int) * a.ev ≤ (i : Int) * a.ev := Int.mul_le_mul_of_nonneg_right (by omega) (by omega)
          omega
      rw [hi, h0 i hik] at cb
      exact cb.symm
  · rw [← hm, hitD, hs, h]; rfl
theorem md_none {a b : Wal} {f : Int} (ha : 1 ≤ a.ev) (hb : 1 ≤ b.ev) (h0 : ∀ j : Nat, (j : Int) < b.ev → onD b (mdN a b f + j * a.ev) = false) : mdO a b f = none := by
  obtain ⟨h1, h2, -, -⟩ := mdN_facts (b := b) (f := f) ha
  refine fstH_none _ (fun j hj => ?_)
  cases hc : hitD a b (mdF a b f + j) with
  | false => rfl
  | true =>
    obtain ⟨ca, cb⟩ := (Bool.and_eq_true _ _ ▸ hc : onD a (mdF a b f + j) = true ∧ onD b (mdF a b f + j) = true)
    obtain ⟨i, hi⟩ := onA_from (b := b) (f := f) ha (by omega) ca
    have hib : (i : Int) < b.ev := by
      by_cases hn : (i : Int) < b.ev
      · exact hn
      · have : b.ev * a.ev ≤ (i : Int) * a.ev := Int.mul_le_mul_of_nonneg_right (by omega) (by omega)
        rw [Int.mul_comm b.ev] at this
        omega
    rw [hi, h0 i hib] at cb
    exact cb.symm
end Go.Proofs.YtlfamfdgphhbcabDoor
