/-
  Which way bottles in some places hang: sums over lists of places. No program stands here.
-/
import Derived.Test.YtcdhmlalpjcidaaDoorI
namespace Go.Proofs.YtcdhmlalpjcidaaDoor

def eastL (xs : List Nat) : Int := xs.foldl (fun (s : Int) (p : Nat) => s + (2 * ((p : Int) % 4) - 3)) 0
def southL (xs : List Nat) : Int := xs.foldl (fun (s : Int) (p : Nat) => s + ((p : Int) / 4 - 1)) 0
theorem eastL_snoc (xs : List Nat) (p : Nat) : eastL (xs ++ [p]) = eastL xs + (2 * ((p : Int) % 4) - 3) := by simp [eastL]
theorem southL_snoc (xs : List Nat) (p : Nat) : southL (xs ++ [p]) = southL xs + ((p : Int) / 4 - 1) := by simp [southL]
theorem tip_bounds (xs : List Nat) (h : ∀ p ∈ xs, p < 12) : -3 * (xs.length : Int) ≤ eastL xs ∧ eastL xs ≤ 3 * (xs.length : Int) ∧ -3 * (xs.length : Int) ≤ southL xs ∧ southL xs ≤ 3 * (xs.length : Int) := by
  have key : ∀ (n : Nat) (ys : List Nat), ys.length = n → (∀ p ∈ ys, p < 12) → -3 * (n : Int) ≤ eastL ys ∧ eastL ys ≤ 3 * (n : Int) ∧ -3 * (n : Int) ≤ southL ys ∧ southL ys ≤ 3 * (n : Int) := by
    intro n
    induction n with
    | zero =>
      intro ys hy _
      obtain rfl := List.length_eq_zero_iff.1 hy
      simp [eastL, southL]
    | succ n ih =>
      intro ys hy hp
      have hne : ys ≠ [] := by intro e; rw [e] at hy; simp at hy
      have he := List.dropLast_concat_getLast hne
      have hlen : ys.dropLast.length = n := by simp [hy]
      have hlast := hp _ (List.getLast_mem hne)
      obtain ⟨a, b, c, d⟩ := ih ys.dropLast hlen (fun p hm => hp p (List.dropLast_subset _ hm))
      rw [← he, eastL_snoc, southL_snoc]
      omega
  exact key xs.length xs rfl h

/-- The places whose bottles fit. -/
def usedN (bs : List Bot) (p : Bot → Bool) (k : Nat) : List Nat := (plTo bs p k).map (·.1)
theorem usedN_yes {bs : List Bot} {p : Bot → Bool} {k : Nat} (h : (bs[k]?.any p) = true) : usedN bs p (k + 1) = usedN bs p k ++ [k] := by simp [usedN, plTo_yes h]
theorem usedN_no {bs : List Bot} {p : Bot → Bool} {k : Nat} (h : (bs[k]?.any p) = false) : usedN bs p (k + 1) = usedN bs p k := by simp [usedN, plTo_no h]
theorem usedN_lt {bs : List Bot} {p : Bot → Bool} {k : Nat} : ∀ j ∈ usedN bs p k, j < k := by
  intro j hj
  obtain ⟨x, hx, rfl⟩ := List.mem_map.1 hj
  exact plTo_mem.1 hx
theorem usedN_length (bs : List Bot) (p : Bot → Bool) (k : Nat) : (usedN bs p k).length ≤ k := by
  rw [usedN, List.length_map]; exact plTo_length bs p k
theorem pl_lt {bs : List Bot} (hl : bs.length = 12) {p : Bot → Bool} (x : Pl bs p) : x.1 < 12 := by
  have := x.2
  cases h : bs[x.1]? with
  | none => rw [h] at this; simp at this
  | some b => have := (List.getElem?_eq_some_iff.1 h).1; omega
end Go.Proofs.YtcdhmlalpjcidaaDoor
