/-
  Payments: what they leave, and when they are right. No program's contract here.
-/
import Derived.Test.YtcdoablhnlkkmaaDoorHm
import Derived.Test.YtcdoablhnlkkmaaDoorAs0
import Derived.Test.YtcdoablhnlkkmaaDoorEo
import Derived.Test.YtcdoablhnlkkmaaDoorLi
namespace Go.Proofs.YtcdoablhnlkkmaaDoor
open Go.ChangeShapes Go.WideShapes Go.ChangeAt Go.RowKit Go.Deep

theorem own_blockC {w : World} {b size n : Nat} {e : TypeId} {v : Value} {xs : List Value} (h : w.ownsRow b e size v n xs) {k : Nat} (hk : v.ownBlock = some k) : b ≤ k ∧ k < w.heap.size := by
  rcases h.2 with ⟨rfl, -⟩ | ⟨g, cap, cur, rfl, h2, h3, -⟩
  · cases hk
  · obtain rfl : g = k := by simpa [Value.ownBlock] using hk
    exact ⟨h2, (Array.getElem?_eq_some_iff.1 h3).1⟩
def bil : Int := 1000000000
/-- What is wrong with the nets. -/
def ntO (xs : List Int) : Option Nat := if wi 1 6 xs.length = true then (if xs.all (wi (-bil) bil) = true then (if xs.sum = 0 then none else some 2) else some 0) else some 5
/-- What is wrong with the nets or the list. -/
def cpO (xs : List Int) (ps : List Pay) : Option Nat := match ntO xs with
  | some i => some i
  | none => if ps.length ≤ 80 then none else some 1
def pyOk (n : Nat) (p : Pay) : Bool := (wi 0 (n - 1) p.pf && wi 0 (n - 1) p.pt) && (decide (¬ p.pf = p.pt) && wi 1 bil p.am)
def pyA (l : List Int) (p : Pay) : List Int := (l.set p.pf.toNat (l.getD p.pf.toNat 0 + p.am)).set p.pt.toNat (l.getD p.pt.toNat 0 - p.am)
def lfL (xs : List Int) (ps : List Pay) : Nat → List Int
  | 0 => xs
  | k + 1 => pyA (lfL xs ps k) (ps.getD k ⟨0, 0, 0⟩)
/-- Whether the payments make all nets 0. -/
def cpB (xs : List Int) (ps : List Pay) : Bool := match cpO xs ps with
  | some _ => false
  | none => ps.all (pyOk xs.length) && (lfL xs ps ps.length).all (fun x => decide (x = 0))
theorem pyA_len (l : List Int) (p : Pay) : (pyA l p).length = l.length := by simp [pyA]
theorem lfL_len (xs : List Int) (ps : List Pay) : ∀ k, (lfL xs ps k).length = xs.length
  | 0 => rfl
  | k + 1 => by rw [lfL, pyA_len, lfL_len xs ps k]
theorem lfL_succ {xs : List Int} {ps : List Pay} {k : Nat} {p : Pay} (h : ps[k]? = some p) : lfL xs ps (k + 1) = pyA (lfL xs ps k) p := by
  rw [lfL, show ps.getD k ⟨0, 0, 0⟩ = p from by simp [h]]
theorem pyOk_iff {n : Nat} {p : Pay} : pyOk n p = true ↔ (0 ≤ p.pf ∧ p.pf ≤ (n : Int) - 1) ∧ (0 ≤ p.pt ∧ p.pt ≤ (n : Int) - 1) ∧ ¬ p.pf = p.pt ∧ 1 ≤ p.am ∧ p.am ≤ bil := by
  simp only [pyOk, Bool.and_eq_true, wi_iff, decide_eq_true_eq, and_assoc]
theorem lfL_in {xs : List Int} {ps : List Pay} (hx : ∀ x ∈ xs, -bil ≤ x ∧ x ≤ bil) : ∀ k, k ≤ ps.length → (∀ j p, j < k → ps[j]? = some p → pyOk xs.length p = true) → ∀ x ∈ lfL xs ps k, -(bil * (k + 1)) ≤ x ∧ x ≤ bil * (k + 1)
  | 0, _, _, x, h => by have := hx x h; simp; omega
  | k + 1, hk, hp, x, h => by
    have hkl : k < ps.length := by omega
    have hpk : ps[k]? = some ps[k] := List.getElem?_eq_getElem hkl
    have ih := lfL_in (ps := ps) hx k (by omega) (fun j p hj => hp j p (by omega))
    obtain ⟨a1, a2, a3, a4⟩ := pyOk_iff.1 (hp k _ (by omega) hpk)
    have hd : ∀ i, -(bil * (k + 1)) ≤ (lfL xs ps k).getD i 0 ∧ (lfL xs ps k).getD i 0 ≤ bil * (k + 1) := fun i => by
      rw [List.getD_eq_getElem?_getD]
      cases hi : (lfL xs ps k)[i]? with
      | none => simp only [Option.getD_none, bil]; omega
      | some v => exact ih v (List.mem_of_getElem? hi)
    rw [lfL_succ hpk, pyA] at h
    have e : ((k + 1 : Nat) : Int) + 1 = (k : Int) + 1 + 1 := by omega
    rw [e]
    rcases List.mem_or_eq_of_mem_set h with h | rfl
    · rcases List.mem_or_eq_of_mem_set h with h | rfl
      · have := ih x h; simp only [bil] at *; omega
      · have := hd ps[k].pf.toNat; simp only [bil] at *; omega
    · have := hd ps[k].pt.toNat; simp only [bil] at *; omega
theorem ntO_none {xs : List Int} (h : ntO xs = none) : (1 ≤ xs.length ∧ xs.length ≤ 6) ∧ ∀ x ∈ xs, -bil ≤ x ∧ x ≤ bil := by
  unfold ntO at h
  split at h
  · rename_i h1
    split at h
    · rename_i h2
      have h1 := wi_iff.1 h1
      exact ⟨by omega, fun x hx => wi_iff.1 (List.all_eq_true.1 h2 x hx)⟩
    · cases h
  · cases h
theorem ntO_lt {xs : List Int} : ∀ i, ntO xs = some i → i < 7 := fun i h => by
  unfold ntO at h
  split at h
  · split at h
    · split at h
      · cases h
      · obtain rfl := Option.some.inj h; omega
    · obtain rfl := Option.some.inj h; omega
  · obtain rfl := Option.some.inj h; omega
theorem cpO_is (xs : List Int) (ps : List Pay) : cpO xs ps = firstO [ntO xs, if ps.length ≤ 80 then none else some 1] := by
  unfold cpO
  cases ntO xs with
  | some i => rfl
  | none =>
    by_cases h : ps.length ≤ 80
    · simp only [if_pos h]; rfl
    · simp only [if_neg h]; rfl
theorem cpO_none {xs : List Int} {ps : List Pay} (h : cpO xs ps = none) : ntO xs = none ∧ ps.length ≤ 80 := by
  unfold cpO at h
  cases hn : ntO xs with
  | some i => rw [hn] at h; cases h
  | none =>
    rw [hn] at h
    dsimp only at h
    split at h
    · exact ⟨rfl, by assumption⟩
    · cases h
theorem cpO_lt {xs : List Int} {ps : List Pay} : ∀ i, cpO xs ps = some i → i < 7 := fun i h => by
  unfold cpO at h
  cases hn : ntO xs with
  | some j => rw [hn] at h; obtain rfl := Option.some.inj h; exact ntO_lt j hn
  | none =>
    rw [hn] at h
    dsimp only at h
    split at h
    · cases h
    · obtain rfl := Option.some.inj h; omega
theorem cpB_no {xs : List Int} {ps : List Pay} {i : Nat} (h : cpO xs ps = some i) : cpB xs ps = false := by rw [cpB, h]
theorem cpB_bad {xs : List Int} {ps : List Pay} (h : cpO xs ps = none) {p : Pay} {k : Nat} (hk : ps[k]? = some p) (hp : pyOk xs.length p = false) : cpB xs ps = false := by
  rw [cpB, h]
  have : ps.all (pyOk xs.length) = false := by
    rw [List.all_eq_false]
    exact ⟨p, List.mem_of_getElem? hk, by simp [hp]⟩
  simp [this]
theorem cpB_yes {xs : List Int} {ps : List Pay} (h : cpO xs ps = none) (ha : ∀ j p, j < ps.length → ps[j]? = some p → pyOk xs.length p = true) : cpB xs ps = (lfL xs ps ps.length).all (fun x => decide (x = 0)) := by
  rw [cpB, h]
  have : ps.all (pyOk xs.length) = true := by
    rw [List.all_eq_true]
    intro p hp
    obtain ⟨j, hj, rfl⟩ := List.mem_iff_getElem.1 hp
    exact ha j _ hj (List.getElem?_eq_getElem hj)
  simp [this]
/-- A list of numbers of one's own: one is set. -/
theorem own_setI {w : World} {b g o c : Nat} {te : TypeId} {xs : List Int} (h : w.ownsRow b te 1 (.slice (some ⟨g, o, none⟩) xs.length c) xs.length (xs.flatMap icells)) (k : Nat) (x : Int) : o = 0 ∧ (w.setCell ⟨g, k, none⟩ (.int .i64 x)).ownsRow b te 1 (.slice (some ⟨g, 0, none⟩) (xs.set k x).length c) (xs.set k x).length ((xs.set k x).flatMap icells) := by
  rcases h.2 with ⟨h0, -⟩ | ⟨g', cap, cur, hv, hb, hg, hn, hc, hz, ht⟩
  · cases h0
  · simp only [Value.slice.injEq, Option.some.injEq, Addr.mk.injEq, and_true, true_and] at hv
    obtain ⟨⟨rfl, rfl⟩, rfl⟩ := hv
    have hK : Blk w g te cur := hg
    have hf : ∀ l : List Int, l.flatMap icells = l.map (fun v => Value.int .i64 v) := fun l => by
      induction l with
      | nil => rfl
      | cons y ys ih => simp [List.flatMap_cons, icells, ih]
    rw [List.length_set]
    refine ⟨rfl, by rw [hf, List.length_map, List.length_set]; simp, .inr ⟨g, c, _, rfl, hb, hK.set_ k _, hn, hc, by simpa using hz, ?_⟩⟩
    rw [Array.toList_setIfInBounds, List.take_set, ht, hf, hf, List.map_set]
theorem own_frozenI {w : World} {b size n c : Nat} {e : TypeId} {g0 : Nat} {xs : List Value} (h : w.ownsRow b e size (.slice (some ⟨g0, 0, none⟩) n c) n xs) (k : Nat) : w.frozen? ⟨g0, k, none⟩ = false := by
  rcases h.2 with ⟨e, -⟩ | ⟨g, cap, cur, hv, hb, hg', -⟩
  · cases e
  · have e0 := (Value.slice.inj hv).1
    simp only [Option.some.injEq, Addr.mk.injEq, and_true] at e0
    subst e0
    exact Blk.frozen (show Blk w g0 _ cur from hg') k

end Go.Proofs.YtcdoablhnlkkmaaDoor
