/-
  Entries, holdings, prices, payments: what is valid, what an entry changes, sums. No program.
-/
import Derived.WalkKit
import Derived.Test.YtmfdgpinohbckaaDoorYm
namespace Go.Proofs.YtmfdgpinohbckaaDoor
open Go.RowKit

structure Ent where
  dy : Int
  fr : Int
  to : Int
  wh : Int
  nu : Int
deriving DecidableEq
structure Hol where
  fu : Int
  em : Int
  cr : Int
  br : Int
  mo : Int
deriving DecidableEq
structure Pri where
  bo : Int
  ct : Int
structure Pay where
  pf : Int
  pt : Int
  am : Int
def in8 (n : Int) : Prop := -128 ≤ n ∧ n ≤ 127
def inU8 (n : Int) : Prop := 0 ≤ n ∧ n ≤ 255
def wfE (x : Ent) : Prop := in16 x.dy ∧ in8 x.fr ∧ in8 x.to ∧ inU8 x.wh ∧ in16 x.nu
def wfH (x : Hol) : Prop := wfI6 x.fu ∧ wfI6 x.em ∧ wfI6 x.cr ∧ wfI6 x.br ∧ wfI6 x.mo
def wfP (x : Pri) : Prop := in16 x.bo ∧ in16 x.ct
def wfQ (x : Pay) : Prop := in8 x.pf ∧ in8 x.pt ∧ wfI6 x.am

def wi (lo hi n : Int) : Bool := decide (lo ≤ n) && decide (n ≤ hi)
theorem wi_iff {lo hi n : Int} : wi lo hi n = true ↔ lo ≤ n ∧ n ≤ hi := by simp [wi]
theorem wi_no {lo hi n : Int} : wi lo hi n = false ↔ n < lo ∨ hi < n := by
  rw [Bool.eq_false_iff, ne_eq, wi_iff]; omega
def prOk (p : Pri) : Bool := wi 0 1000 p.bo && wi 0 1000 p.ct
def enOk (n : Int) (e : Ent) : Bool := wi 1 6 n && (wi 0 10000 e.dy && (wi 0 (n - 1) e.fr && (wi 0 (n - 1) e.to && (decide (e.wh ≤ 4) && (wi 1 1000 e.nu && decide (e.fr = e.to ↔ 3 ≤ e.wh))))))
theorem enOk_iff {n : Int} {e : Ent} : enOk n e = true ↔ (1 ≤ n ∧ n ≤ 6) ∧ (0 ≤ e.dy ∧ e.dy ≤ 10000) ∧ (0 ≤ e.fr ∧ e.fr ≤ n - 1) ∧ (0 ≤ e.to ∧ e.to ≤ n - 1) ∧ e.wh ≤ 4 ∧ (1 ≤ e.nu ∧ e.nu ≤ 1000) ∧ (e.fr = e.to ↔ 3 ≤ e.wh) := by
  simp only [enOk, Bool.and_eq_true, decide_eq_true_eq, wi_iff]
/-- Is the entry with an index valid, and no earlier than the one before it? -/
def stOk (n : Int) (l : List Ent) (j : Nat) : Bool :=
  match l[j]? with
  | none => true
  | some x => enOk n x && (match j with
    | 0 => true
    | i + 1 => match l[i]? with
      | none => true
      | some y => decide (y.dy ≤ x.dy))
theorem stOk_zero {n : Int} {l : List Ent} {x : Ent} (h : l[0]? = some x) : stOk n l 0 = enOk n x := by
  simp [stOk, h]
theorem stOk_succ {n : Int} {l : List Ent} {i : Nat} {x y : Ent} (h : l[i + 1]? = some x) (hy : l[i]? = some y) : stOk n l (i + 1) = (enOk n x && decide (y.dy ≤ x.dy)) := by
  simp [stOk, h, hy]
theorem stOk_bad {n : Int} {l : List Ent} {j : Nat} {x : Ent} (h : l[j]? = some x) (hx : enOk n x = false) : stOk n l j = false := by
  simp [stOk, h, hx]
theorem stOk_en {n : Int} {l : List Ent} {j : Nat} {x : Ent} (h : l[j]? = some x) (hs : stOk n l j = true) : enOk n x = true := by
  cases hx : enOk n x
  · rw [stOk_bad h hx] at hs; cases hs
  · rfl
def UpTo (p : Nat → Bool) (k : Nat) : Prop := ∀ j, j < k → p j = true
theorem UpTo.zero (p : Nat → Bool) : UpTo p 0 := fun j h => absurd h (Nat.not_lt_zero _)
theorem UpTo.step {p : Nat → Bool} {k : Nat} (h : UpTo p k) (hk : p k = true) : UpTo p (k + 1) := fun j hj => by
  by_cases e : j = k
  · subst e; exact hk
  · exact h j (by omega)
def allN (p : Nat → Bool) (n : Nat) : Bool := (List.range n).all p
theorem UpTo.all {p : Nat → Bool} {n : Nat} (h : UpTo p n) : allN p n = true := by
  rw [allN, List.all_eq_true]; intro j hj; exact h j (List.mem_range.1 hj)
theorem UpTo.no {p : Nat → Bool} {n k : Nat} (hk : k < n) (h : p k = false) : allN p n = false := by
  rw [allN, List.all_eq_false]; exact ⟨k, List.mem_range.2 hk, by simp [h]⟩
theorem allN_out {p : Nat → Bool} {n : Nat} (h : allN p n = true) : UpTo p n := fun j hj => by
  rw [allN, List.all_eq_true] at h; exact h j (List.mem_range.2 hj)
def leOk (n : Int) (l : List Ent) : Bool := wi 1 6 n && (decide (l.length ≤ 80) && allN (stOk n l) l.length)
theorem leOk_out {n : Int} {l : List Ent} (h : leOk n l = true) : (1 ≤ n ∧ n ≤ 6) ∧ l.length ≤ 80 ∧ ∀ x ∈ l, enOk n x = true := by
  simp only [leOk, Bool.and_eq_true, decide_eq_true_eq, wi_iff] at h
  refine ⟨h.1, h.2.1, fun x hx => ?_⟩
  obtain ⟨j, hj, rfl⟩ := List.mem_iff_getElem.1 hx
  exact stOk_en (List.getElem?_eq_getElem hj) (allN_out h.2.2 j hj)
/-- A holding within its bounds; holdings. -/
def hoOk (h : Hol) : Bool := wi 0 1000000 h.fu && (wi 0 1000000 h.em && (wi 0 1000000 h.cr && (wi 0 1000000 h.br && wi (-1000000000) 1000000000 h.mo)))
theorem hoOk_iff {h : Hol} : hoOk h = true ↔ (0 ≤ h.fu ∧ h.fu ≤ 1000000) ∧ (0 ≤ h.em ∧ h.em ≤ 1000000) ∧ (0 ≤ h.cr ∧ h.cr ≤ 1000000) ∧ (0 ≤ h.br ∧ h.br ≤ 1000000) ∧ (-1000000000 ≤ h.mo ∧ h.mo ≤ 1000000000) := by
  simp only [hoOk, Bool.and_eq_true, wi_iff]
def paOk (n : Int) : Bool := wi 1 6 n
def hoC (l : List Hol) : Int := if paOk l.length = true then (if l.all hoOk = true then 0 else 2) else 1
def hoO (l : List Hol) : List (Option Nat) := [if paOk l.length = true then none else some 5, if l.all hoOk = true then none else some 0]
/-- Sums. -/
def hzero : Hol := ⟨0, 0, 0, 0, 0⟩
def hadd (a b : Hol) : Hol := ⟨a.fu + b.fu, a.em + b.em, a.cr + b.cr, a.br + b.br, a.mo + b.mo⟩
def hneg (a : Hol) : Hol := ⟨-a.fu, -a.em, -a.cr, -a.br, -a.mo⟩
def hsum (l : List Hol) : Nat → Hol
  | 0 => hzero
  | k + 1 => hadd (hsum l k) (l.getD k hzero)
theorem hsum_succ {l : List Hol} {k : Nat} {x : Hol} (h : l[k]? = some x) : hsum l (k + 1) = hadd (hsum l k) x := by
  rw [hsum, List.getD_eq_getElem?_getD, h]; rfl
def hin (b : Int) (a : Hol) : Prop := (-b ≤ a.fu ∧ a.fu ≤ b) ∧ (-b ≤ a.em ∧ a.em ≤ b) ∧ (-b ≤ a.cr ∧ a.cr ≤ b) ∧ (-b ≤ a.br ∧ a.br ≤ b) ∧ (-b ≤ a.mo ∧ a.mo ≤ b)
theorem hsum_in {l : List Hol} {b : Int} (hb : ∀ x ∈ l, hin b x) : ∀ k, k ≤ l.length → hin (b * k) (hsum l k)
  | 0, _ => by simp [hsum, hin, hzero]
  | k + 1, hk => by
    have ih := hsum_in hb k (by omega)
    have hx : l[k]? = some l[k] := List.getElem?_eq_getElem (by omega)
    have h1 := hb _ (List.getElem_mem (by omega : k < l.length))
    rw [hsum_succ hx]
    have e : b * ((k + 1 : Nat) : Int) = b * k + b := by rw [Int.natCast_succ, Int.mul_add, Int.mul_one]
    rw [e]
    obtain ⟨⟨a0, a1⟩, ⟨b0, b1⟩, ⟨c0, c1⟩, ⟨d0, d1⟩, e0, e1⟩ := ih
    obtain ⟨⟨f0, f1⟩, ⟨g0, g1⟩, ⟨h0, h1⟩, ⟨i0, i1⟩, j0, j1⟩ := h1
    generalize b * (k : Int) = c at *
    refine ⟨⟨?_, ?_⟩, ⟨?_, ?_⟩, ⟨?_, ?_⟩, ⟨?_, ?_⟩, ?_, ?_⟩ <;> simp only [hadd] <;> omega
theorem hoOk_in {h : Hol} (hh : hoOk h = true) : hin 1000000000 h := by
  obtain ⟨a, b, c, d, e⟩ := hoOk_iff.1 hh
  refine ⟨⟨?_, ?_⟩, ⟨?_, ?_⟩, ⟨?_, ?_⟩, ⟨?_, ?_⟩, ?_, ?_⟩ <;> omega
/-- What deposits are worth. -/
def dep (p : Pri) (h : Hol) : Int := (h.fu + h.em) * p.bo + h.cr * p.ct
end Go.Proofs.YtmfdgpinohbckaaDoor
