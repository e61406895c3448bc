/-
  Rows and walkers: what is valid; days; how often one comes. No program.
-/
import Derived.WalkKit
namespace Go.Proofs.YtkehmelcecifdaaDoor
open Go.RowKit

/-- A walker. -/
structure Wal where
  fi : Int
  ev : Int
  st : Int
  sp : Int
  co : Int
  tu : Int
def in16 (n : Int) : Prop := -32768 ≤ n ∧ n ≤ 32767
def wfV (x : Wal) : Prop := in16 x.fi ∧ in16 x.ev ∧ in16 x.st ∧ in16 x.sp ∧ in16 x.co ∧ -128 ≤ x.tu ∧ x.tu ≤ 127
def wfI6 (n : Int) : Prop := -9223372036854775808 ≤ n ∧ n ≤ 9223372036854775807
/-- Is a row valid, a walker for so many bottles, several walkers? -/
def yOk (r : List Int) : Bool := r.all (fun x => decide (x ≤ 7)) && (decide (1 ≤ r.length) && decide (r.length ≤ 60))
def vOk (n : Int) (x : Wal) : Bool := ((decide (0 ≤ x.fi) && decide (x.fi ≤ 10000)) && (decide (1 ≤ x.ev) && decide (x.ev ≤ 100)) && (decide (0 ≤ x.st) && decide (x.st ≤ n - 1))) && ((decide (0 ≤ x.sp) && decide (x.sp ≤ 60)) && (decide (1 ≤ x.co) && decide (x.co ≤ 60)) && (decide (-7 ≤ x.tu) && decide (x.tu ≤ 7)))
def vsOk (n : Int) (l : List Wal) : Bool := (decide (1 ≤ n) && decide (n ≤ 60)) && (decide (l.length ≤ 8) && l.all (vOk n))
theorem vOk_out {n : Int} {x : Wal} (h : vOk n x = true) : (0 ≤ x.fi ∧ x.fi ≤ 10000) ∧ (1 ≤ x.ev ∧ x.ev ≤ 100) ∧ (0 ≤ x.st ∧ x.st ≤ n - 1) ∧ (0 ≤ x.sp ∧ x.sp ≤ 60) ∧ (1 ≤ x.co ∧ x.co ≤ 60) ∧ (-7 ≤ x.tu ∧ x.tu ≤ 7) := by
  simp only [vOk, Bool.and_eq_true, decide_eq_true_eq] at h
  obtain ⟨⟨⟨h1, h2⟩, h3⟩, ⟨h4, h5⟩, h6⟩ := h
  exact ⟨h1, h2, h3, h4, h5, h6⟩
theorem vsOk_out {n : Int} {l : List Wal} (h : vsOk n l = true) : (1 ≤ n ∧ n ≤ 60) ∧ l.length ≤ 8 ∧ ∀ x ∈ l, vOk n x = true := by
  simp only [vsOk, Bool.and_eq_true, decide_eq_true_eq] at h
  exact ⟨h.1, h.2.1, fun x hx => List.all_eq_true.1 h.2.2 x hx⟩
theorem yOk_out {r : List Int} (h : yOk r = true) : (∀ x ∈ r, x ≤ 7) ∧ 1 ≤ r.length ∧ r.length ≤ 60 := by
  simp only [yOk, Bool.and_eq_true, decide_eq_true_eq] at h
  exact ⟨fun x hx => by simpa using List.all_eq_true.1 h.1 x hx, h.2⟩
/-- Does a walker come on a day; how often up to a day? -/
def onD (x : Wal) (d : Int) : Bool := decide (x.fi ≤ d) && decide ((d - x.fi) % x.ev = 0)
def unD (x : Wal) (d : Int) : Int := if d < x.fi then 0 else (d - x.fi) / x.ev + 1
/-- The code of walkers for so many bottles, and of numbers that are as told. -/
def akV (n : Int) (l : List Wal) (fine : Bool) : Int := if vsOk n l = true then (if fine = true then 0 else 2) else 1
theorem akV_yes {n : Int} {l : List Wal} {f : Bool} (h : akV n l f = 0) : vsOk n l = true ∧ f = true := by
  unfold akV at h
  split at h
  · split at h
    · exact ⟨by assumption, by assumption⟩
    · cases h
  · cases h
/-- What is told, if the code is OK. -/
def ifOk {T : Type} (c : Int) (v z : T) : T := if c = 0 then v else z
def inS (d : Int) : Bool := decide (0 ≤ d) && decide (d ≤ 10000)

/-- The greatest number of a row. -/
def maxTo (r : List Int) : Nat → Int
  | 0 => r.getD 0 0
  | k + 1 => max (maxTo r k) (r.getD k 0)
theorem maxTo_le {r : List Int} {b : Int} : ∀ (k : Nat), 0 < r.length → k ≤ r.length → (maxTo r k ≤ b ↔ r.getD 0 0 ≤ b ∧ ∀ j, j < k → r.getD j 0 ≤ b)
  | 0, _, _ => by simp [maxTo]
  | k + 1, h, hk => by
    have ih := maxTo_le (b := b) k h (by omega)
    rw [maxTo, Int.max_le, ih]
    constructor
    · rintro ⟨⟨h0, h1⟩, h2⟩
      refine ⟨h0, fun j hj => ?_⟩
      by_cases e : j = k
      · subst e; exact h2
      · exact h1 j (by omega)
    · rintro ⟨h0, h1⟩
      exact ⟨⟨h0, fun j hj => h1 j (by omega)⟩, h1 k (by omega)⟩
theorem maxTo_all {r : List Int} (h : 0 < r.length) (b : Int) : decide (maxTo r r.length ≤ b) = r.all (fun x => decide (x ≤ b)) := by
  rw [Bool.eq_iff_iff, decide_eq_true_eq, maxTo_le _ h (Nat.le_refl _), List.all_eq_true]
  constructor
  · rintro ⟨_, h1⟩ x hx
    obtain ⟨i, hi, rfl⟩ := List.mem_iff_getElem.1 hx
    have := h1 i hi
    simpa [List.getD_eq_getElem?_getD, hi] using this
  · intro h1
    have h2 : ∀ j, j < r.length → r.getD j 0 ≤ b := fun j hj => by
      have := h1 _ (List.getElem_mem hj)
      simpa [List.getD_eq_getElem?_getD, hj] using this
    exact ⟨h2 0 h, h2⟩

/-! ### How often one comes -/
def vat (n st sp k : Nat) : Nat := (st + k * sp) % n
def bump (v : List Int) (i : Nat) : List Int := v.set i (v.getD i 0 + 1)
def visTo (n st sp : Nat) : Nat → List Int
  | 0 => List.replicate n 0
  | k + 1 => bump (visTo n st sp k) (vat n st sp k)
theorem visTo_len (n st sp : Nat) : ∀ k, (visTo n st sp k).length = n
  | 0 => by simp [visTo]
  | k + 1 => by rw [visTo, bump, List.length_set, visTo_len n st sp k]
theorem visTo_in (n st sp : Nat) : ∀ (k i : Nat), 0 ≤ (visTo n st sp k).getD i 0 ∧ (visTo n st sp k).getD i 0 ≤ k
  | 0, i => by
    rw [visTo, List.getD_eq_getElem?_getD, List.getElem?_replicate]
    split <;> simp
  | k + 1, i => by
    have ih := visTo_in n st sp k
    have h1 := ih i
    have h2 := ih (vat n st sp k)
    rw [visTo, bump, List.getD_eq_getElem?_getD, List.getElem?_set]
    split
    · split
      · simp only [Option.getD_some]; omega
      · simp; omega
    · rw [← List.getD_eq_getElem?_getD]; omega
theorem vat_lt {n : Nat} (h : 0 < n) (st sp k : Nat) : vat n st sp k < n := Nat.mod_lt _ h
theorem vat_zero {n st : Nat} (h : st < n) (sp : Nat) : vat n st sp 0 = st := by simp [vat, Nat.mod_eq_of_lt h]
theorem vat_succ (n st sp k : Nat) : vat n st sp (k + 1) = (vat n st sp k + sp) % n := by
  unfold vat
  rw [Nat.mod_add_mod, Nat.add_mul, Nat.one_mul, Nat.add_assoc]
def vis (n : Nat) (x : Wal) : List Int := visTo n x.st.toNat x.sp.toNat x.co.toNat
theorem vis_len (n : Nat) (x : Wal) : (vis n x).length = n := visTo_len ..

/-! ### Turns -/
/-- A row, turned by so many eighths at each place. -/
def tnR (r : List Int) (f : Nat → Int) : List Int := r.mapIdx (fun i a => (a + f i) % 8)
theorem tnR_len (r : List Int) (f : Nat → Int) : (tnR r f).length = r.length := by simp [tnR]
theorem tnR_get {r : List Int} {i : Nat} {a : Int} (f : Nat → Int) (h : r[i]? = some a) : (tnR r f)[i]? = some ((a + f i) % 8) := by simp [tnR, h]
theorem tnR_tnR (r : List Int) (f g : Nat → Int) : tnR (tnR r f) g = tnR r (fun i => f i + g i) := by
  apply List.ext_getElem?
  intro i
  simp only [tnR, List.getElem?_mapIdx, Option.map_map]
  cases r[i]? with
  | none => rfl
  | some a => simp only [Option.map_some, Function.comp, Int.emod_add_emod, Int.add_assoc]
theorem tnR_congr {r : List Int} {f g : Nat → Int} (h : ∀ i, i < r.length → (f i) % 8 = (g i) % 8) : tnR r f = tnR r g := by
  apply List.ext_getElem?
  intro i
  simp only [tnR, List.getElem?_mapIdx]
  cases hr : r[i]? with
  | none => rfl
  | some a =>
    have hi := (List.getElem?_eq_some_iff.1 hr).1
    simp only [Option.map_some, Option.some.injEq]
    rw [Int.add_emod, h i hi, ← Int.add_emod]
theorem tnR_zero {r : List Int} (h : ∀ x ∈ r, 0 ≤ x ∧ x ≤ 7) : tnR r (fun _ => 0) = r := by
  apply List.ext_getElem?
  intro i
  simp only [tnR, List.getElem?_mapIdx]
  cases hr : r[i]? with
  | none => rfl
  | some a =>
    have := h a (List.mem_of_getElem? hr)
    simp only [Option.map_some, Option.some.injEq]
    omega
theorem tnR_in {r : List Int} {f : Nat → Int} : ∀ x ∈ tnR r f, 0 ≤ x ∧ x ≤ 7 := by
  intro x hx
  obtain ⟨i, hi, rfl⟩ := List.mem_iff_getElem.1 hx
  simp only [tnR, List.getElem_mapIdx]
  omega
end Go.Proofs.YtkehmelcecifdaaDoor
