/-
  Entries, holdings, prices, payments: what is valid, what an entry changes, sums. No program.
-/
import Derived.Test.YtmfdgpinohbckaaDoorMg12
import Derived.WalkKit
namespace Go.Proofs.YtmfdgpinohbckaaDoor
open Go.ChangeShapes Go.WideShapes Go.ChangeAt Go.RowKit Go.Deep

/-- What an outcome is as a value. -/
def erO (ad : Nat → Addr) (o : Option Nat) : Value := match o with | none => .nilIface | some i => .iface 165 (.pointer (some (ad i)))
theorem erO_none (ad : Nat → Addr) : erO ad none = .nilIface := rfl
theorem erO_some (ad : Nat → Addr) (i : Nat) : erO ad (some i) = .iface 165 (.pointer (some (ad i))) := rfl
theorem erO_isE (ad : Nat → Addr) (o : Option Nat) : isE (erO ad o) := by
  cases o with
  | none => exact .inl rfl
  | some i => exact .inr ⟨_, rfl⟩
def firstO : List (Option Nat) → Option Nat
  | [] => none
  | none :: r => firstO r
  | some i :: _ => some i
def chk (k : Nat) (b : Bool) : Option Nat := if b = true then none else some k
theorem chk_yes (k : Nat) : chk k true = none := rfl
theorem chk_no (k : Nat) : chk k false = some k := rfl
theorem erV_chk (ad : Nat → Addr) (k : Nat) (b : Bool) : erV ad k b = erO ad (chk k b) := by cases b <;> rfl
theorem firstL_O (ad : Nat → Addr) : ∀ os : List (Option Nat), firstL (os.map (erO ad)) = erO ad (firstO os)
  | [] => rfl
  | none :: r => firstL_O ad r
  | some i :: r => rfl
def cdN : Nat → Int
  | 0 => 2
  | 1 => 3
  | 2 => 4
  | 3 => 5
  | 4 => 6
  | 5 => 1
  | _ => 8
def cdO : Option Nat → Int
  | none => 0
  | some i => cdN i
theorem codeOf_O {w : World} {ad : Nat → Addr} (h : EW 7 w ad) (i : Nat) (hi : i < 7) : Calls Tryd.prog 42 #[.iface 165 (.pointer (some (ad i)))] w fun e w' => e = .returned (.int .i64 (cdN i)) ∧ w = w' := by
  have : i = 0 ∨ i = 1 ∨ i = 2 ∨ i = 3 ∨ i = 4 ∨ i = 5 ∨ i = 6 := by omega
  rcases this with rfl | rfl | rfl | rfl | rfl | rfl | rfl
  · exact codeOf_0 (h.less (by omega))
  · exact codeOf_1 (h.less (by omega))
  · exact codeOf_2 (h.less (by omega))
  · exact codeOf_3 (h.less (by omega))
  · exact codeOf_4 (h.less (by omega))
  · exact codeOf_5 h
  · exact codeOf_6 h
theorem codeOf_any {w : World} {ad : Nat → Addr} (h : EW 7 w ad) (o : Option Nat) (ho : ∀ i, o = some i → i < 7) : Calls Tryd.prog 42 #[erO ad o] w fun e w' => e = .returned (.int .i64 (cdO o)) ∧ w = w' := by
  cases o with
  | none => exact codeOf_nil w
  | some i => exact codeOf_O h i (ho i rfl)
theorem firstErr_O (ad : Nat → Addr) (os : List (Option Nat)) (B c : Nat) (w : World) (hl : os.length ≤ 1048576) (h : ∀ (j : Nat) (o : Option Nat), os[j]? = some o → w.cell? ⟨B, j, none⟩ = some (erO ad o)) :
    Calls Tryd.prog 39 #[.slice (some ⟨B, 0, none⟩) os.length c] w fun e w' => e = .returned (erO ad (firstO os)) ∧ w = w' := by
  have := firstErrs_any (os.map (erO ad)) (fun v hv => by obtain ⟨o, -, rfl⟩ := List.mem_map.1 hv; exact erO_isE ad o) B c w (by simpa using hl) (fun j v hv => by
    rw [List.getElem?_map] at hv
    obtain ⟨o, ho, rfl⟩ := Option.map_eq_some_iff.1 hv
    exact h j o ho)
  rw [List.length_map, firstL_O] at this
  exact this
theorem firstErr2_O (ad : Nat → Addr) (o0 o1 : Option Nat) (B c : Nat) (w : World) (h0 : w.cell? ⟨B, 0, none⟩ = some (erO ad o0)) (h1 : w.cell? ⟨B, 1, none⟩ = some (erO ad o1)) :
    Calls Tryd.prog 39 #[.slice (some ⟨B, 0, none⟩) 2 c] w fun e w' => e = .returned (erO ad (firstO [o0, o1])) ∧ w = w' :=
  firstErr_O ad [o0, o1] B c w (by simp) (fun j o ho => by
    match j with
    | 0 => obtain rfl := Option.some.inj ho; exact h0
    | 1 => obtain rfl := Option.some.inj ho; exact h1
    | _ + 2 => simp at ho)
theorem firstErr3_O (ad : Nat → Addr) (o0 o1 o2 : Option Nat) (B c : Nat) (w : World) (h0 : w.cell? ⟨B, 0, none⟩ = some (erO ad o0)) (h1 : w.cell? ⟨B, 1, none⟩ = some (erO ad o1)) (h2 : w.cell? ⟨B, 2, none⟩ = some (erO ad o2)) :
    Calls Tryd.prog 39 #[.slice (some ⟨B, 0, none⟩) 3 c] w fun e w' => e = .returned (erO ad (firstO [o0, o1, o2])) ∧ w = w' :=
  firstErr_O ad [o0, o1, o2] B c w (by simp) (fun j o ho => by
    match j with
    | 0 => obtain rfl := Option.some.inj ho; exact h0
    | 1 => obtain rfl := Option.some.inj ho; exact h1
    | 2 => obtain rfl := Option.some.inj ho; exact h2
    | _ + 3 => simp at ho)
theorem firstO_lt {os : List (Option Nat)} (h : ∀ o ∈ os, ∀ i, o = some i → i < 7) : ∀ i, firstO os = some i → i < 7 := by
  induction os with
  | nil => intro i e; cases e
  | cons o os ih =>
    intro i e
    cases o with
    | none => exact ih (fun o ho => h o (List.mem_cons_of_mem _ ho)) i e
    | some j => exact h _ (List.mem_cons_self ..) i e
theorem chk_lt {k : Nat} {b : Bool} (hk : k < 7) : ∀ i, chk k b = some i → i < 7 := by
  intro i e; cases b
  · cases e; exact hk
  · cases e
theorem cdN_ne {i : Nat} : cdN i ≠ 0 := by
  unfold cdN; split <;> omega
end Go.Proofs.YtmfdgpinohbckaaDoor

namespace Go.Proofs.YtmfdgpinohbckaaDoor
open Go.RowKit

/-- A walker. -/
structure Wal where
  fi : Int
  ev : Int
  st : Int
  sp : Int
  co : Int
  tu : Int
def in16 (n : Int) : Prop := -32768 ≤ n ∧ n ≤ 32767
def wfV (x : Wal) : Prop := in16 x.fi ∧ in16 x.ev ∧ in16 x.st ∧ in16 x.sp ∧ in16 x.co ∧ -128 ≤ x.tu ∧ x.tu ≤ 127
def wfI6 (n : Int) : Prop := -9223372036854775808 ≤ n ∧ n ≤ 9223372036854775807
/-- Is a row valid, a walker for so many bottles, several walkers? -/
def yOk (r : List Int) : Bool := r.all (fun x => decide (x ≤ 7)) && (decide (1 ≤ r.length) && decide (r.length ≤ 60))
def vOk (n : Int) (x : Wal) : Bool := ((decide (0 ≤ x.fi) && decide (x.fi ≤ 10000)) && (decide (1 ≤ x.ev) && decide (x.ev ≤ 100)) && (decide (0 ≤ x.st) && decide (x.st ≤ n - 1))) && ((decide (0 ≤ x.sp) && decide (x.sp ≤ 60)) && (decide (1 ≤ x.co) && decide (x.co ≤ 60)) && (decide (-7 ≤ x.tu) && decide (x.tu ≤ 7)))
def vsOk (n : Int) (l : List Wal) : Bool := (decide (1 ≤ n) && decide (n ≤ 60)) && (decide (l.length ≤ 8) && l.all (vOk n))
theorem vOk_out {n : Int} {x : Wal} (h : vOk n x = true) : (0 ≤ x.fi ∧ x.fi ≤ 10000) ∧ (1 ≤ x.ev ∧ x.ev ≤ 100) ∧ (0 ≤ x.st ∧ x.st ≤ n - 1) ∧ (0 ≤ x.sp ∧ x.sp ≤ 60) ∧ (1 ≤ x.co ∧ x.co ≤ 60) ∧ (-7 ≤ x.tu ∧ x.tu ≤ 7) := by
  simp only [vOk, Bool.and_eq_true, decide_eq_true_eq] at h
  obtain ⟨⟨⟨h1, h2⟩, h3⟩, ⟨h4, h5⟩, h6⟩ := h
  exact ⟨h1, h2, h3, h4, h5, h6⟩
theorem vsOk_out {n : Int} {l : List Wal} (h : vsOk n l = true) : (1 ≤ n ∧ n ≤ 60) ∧ l.length ≤ 8 ∧ ∀ x ∈ l, vOk n x = true := by
  simp only [vsOk, Bool.and_eq_true, decide_eq_true_eq] at h
  exact ⟨h.1, h.2.1, fun x hx => List.all_eq_true.1 h.2.2 x hx⟩
theorem yOk_out {r : List Int} (h : yOk r = true) : (∀ x ∈ r, x ≤ 7) ∧ 1 ≤ r.length ∧ r.length ≤ 60 := by
  simp only [yOk, Bool.and_eq_true, decide_eq_true_eq] at h
  exact ⟨fun x hx => by simpa using List.all_eq_true.1 h.1 x hx, h.2⟩
/-- Does a walker come on a day; how often up to a day? -/
def onD (x : Wal) (d : Int) : Bool := decide (x.fi ≤ d) && decide ((d - x.fi) % x.ev = 0)
def unD (x : Wal) (d : Int) : Int := if d < x.fi then 0 else (d - x.fi) / x.ev + 1
/-- The code of walkers for so many bottles, and of numbers that are as told. -/
def akV (n : Int) (l : List Wal) (fine : Bool) : Int := if vsOk n l = true then (if fine = true then 0 else 2) else 1
theorem akV_yes {n : Int} {l : List Wal} {f : Bool} (h : akV n l f = 0) : vsOk n l = true ∧ f = true := by
  unfold akV at h
  split at h
  · split at h
    · exact ⟨by assumption, by assumption⟩
    · cases h
  · cases h
/-- What is told, if the code is OK. -/
def ifOk {T : Type} (c : Int) (v z : T) : T := if c = 0 then v else z
def inS (d : Int) : Bool := decide (0 ≤ d) && decide (d ≤ 10000)

/-- The greatest number of a row. -/
def maxTo (r : List Int) : Nat → Int
  | 0 => r.getD 0 0
  | k + 1 => max (maxTo r k) (r.getD k 0)
theorem maxTo_le {r : List Int} {b : Int} : ∀ (k : Nat), 0 < r.length → k ≤ r.length → (maxTo r k ≤ b ↔ r.getD 0 0 ≤ b ∧ ∀ j, j < k → r.getD j 0 ≤ b)
  | 0, _, _ => by simp [maxTo]
  | k + 1, h, hk => by
    have ih := maxTo_le (b := b) k h (by omega)
    rw [maxTo, Int.max_le, ih]
    constructor
    · rintro ⟨⟨h0, h1⟩, h2⟩
      refine ⟨h0, fun j hj => ?_⟩
      by_cases e : j = k
      · subst e; exact h2
      · exact h1 j (by omega)
    · rintro ⟨h0, h1⟩
      exact ⟨⟨h0, fun j hj => h1 j (by omega)⟩, h1 k (by omega)⟩
theorem maxTo_all {r : List Int} (h : 0 < r.length) (b : Int) : decide (maxTo r r.length ≤ b) = r.all (fun x => decide (x ≤ b)) := by
  rw [Bool.eq_iff_iff, decide_eq_true_eq, maxTo_le _ h (Nat.le_refl _), List.all_eq_true]
  constructor
  · rintro ⟨_, h1⟩ x hx
    obtain ⟨i, hi, rfl⟩ := List.mem_iff_getElem.1 hx
    have := h1 i hi
    simpa [List.getD_eq_getElem?_getD, hi] using this
  · intro h1
    have h2 : ∀ j, j < r.length → r.getD j 0 ≤ b := fun j hj => by
      have := h1 _ (List.getElem_mem hj)
      simpa [List.getD_eq_getElem?_getD, hj] using this
    exact ⟨h2 0 h, h2⟩

/-! ### How often one comes -/
def vat (n st sp k : Nat) : Nat := (st + k * sp) % n
def bump (v : List Int) (i : Nat) : List Int := v.set i (v.getD i 0 + 1)
def visTo (n st sp : Nat) : Nat → List Int
  | 0 => List.replicate n 0
  | k + 1 => bump (visTo n st sp k) (vat n st sp k)
theorem visTo_len (n st sp : Nat) : ∀ k, (visTo n st sp k).length = n
  | 0 => by simp [visTo]
  | k + 1 => by rw [visTo, bump, List.length_set, visTo_len n st sp k]
theorem visTo_in (n st sp : Nat) : ∀ (k i : Nat), 0 ≤ (visTo n st sp k).getD i 0 ∧ (visTo n st sp k).getD i 0 ≤ k
  | 0, i => by
    rw [visTo, List.getD_eq_getElem?_getD, List.getElem?_replicate]
    split <;> simp
  | k + 1, i => by
    have ih := visTo_in n st sp k
    have h1 := ih i
    have h2 := ih (vat n st sp k)
    rw [visTo, bump, List.getD_eq_getElem?_getD, List.getElem?_set]
    split
    · split
      · simp only [Option.getD_some]; omega
      · simp; omega
    · rw [← List.getD_eq_getElem?_getD]; omega
theorem vat_lt {n : Nat} (h : 0 < n) (st sp k : Nat) : vat n st sp k < n := Nat.mod_lt _ h
theorem vat_zero {n st : Nat} (h : st < n) (sp : Nat) : vat n st sp 0 = st := by simp [vat, Nat.mod_eq_of_lt h]
theorem vat_succ (n st sp k : Nat) : vat n st sp (k + 1) = (vat n st sp k + sp) % n := by
  unfold vat
  rw [Nat.mod_add_mod, Nat.add_mul, Nat.one_mul, Nat.add_assoc]
def vis (n : Nat) (x : Wal) : List Int := visTo n x.st.toNat x.sp.toNat x.co.toNat
theorem vis_len (n : Nat) (x : Wal) : (vis n x).length = n := visTo_len ..

/-! ### Turns -/
/-- A row, turned by so many eighths at each place. -/
def tnR (r : List Int) (f : Nat → Int) : List Int := r.mapIdx (fun i a => (a + f i) % 8)
theorem tnR_len (r : List Int) (f : Nat → Int) : (tnR r f).length = r.length := by simp [tnR]
theorem tnR_get {r : List Int} {i : Nat} {a : Int} (f : Nat → Int) (h : r[i]? = some a) : (tnR r f)[i]? = some ((a + f i) % 8) := by simp [tnR, h]
theorem tnR_tnR (r : List Int) (f g : Nat → Int) : tnR (tnR r f) g = tnR r (fun i => f i + g i) := by
  apply List.ext_getElem?
  intro i
  simp only [tnR, List.getElem?_mapIdx, Option.map_map]
  cases r[i]? with
  | none => rfl
  | some a => simp only [Option.map_some, Function.comp, Int.emod_add_emod, Int.add_assoc]
theorem tnR_congr {r : List Int} {f g : Nat → Int} (h : ∀ i, i < r.length → (f i) % 8 = (g i) % 8) : tnR r f = tnR r g := by
  apply List.ext_getElem?
  intro i
  simp only [tnR, List.getElem?_mapIdx]
  cases hr : r[i]? with
  | none => rfl
  | some a =>
    have hi := (List.getElem?_eq_some_iff.1 hr).1
    simp only [Option.map_some, Option.some.injEq]
    rw [Int.add_emod, h i hi, ← Int.add_emod]
theorem tnR_zero {r : List Int} (h : ∀ x ∈ r, 0 ≤ x ∧ x ≤ 7) : tnR r (fun _ => 0) = r := by
  apply List.ext_getElem?
  intro i
  simp only [tnR, List.getElem?_mapIdx]
  cases hr : r[i]? with
  | none => rfl
  | some a =>
    have := h a (List.mem_of_getElem? hr)
    simp only [Option.map_some, Option.some.injEq]
    omega
theorem tnR_in {r : List Int} {f : Nat → Int} : ∀ x ∈ tnR r f, 0 ≤ x ∧ x ≤ 7 := by
  intro x hx
  obtain ⟨i, hi, rfl⟩ := List.mem_iff_getElem.1 hx
  simp only [tnR, List.getElem_mapIdx]
  omega
end Go.Proofs.YtmfdgpinohbckaaDoor

namespace Go.Proofs.YtmfdgpinohbckaaDoor
open Go.RowKit

structure Ent where
  dy : Int
  fr : Int
  to : Int
  wh : Int
  nu : Int
deriving DecidableEq
structure Hol where
  fu : Int
  em : Int
  cr : Int
  br : Int
  mo : Int
deriving DecidableEq
structure Pri where
  bo : Int
  ct : Int
structure Pay where
  pf : Int
  pt : Int
  am : Int
def in8 (n : Int) : Prop := -128 ≤ n ∧ n ≤ 127
def inU8 (n : Int) : Prop := 0 ≤ n ∧ n ≤ 255
def wfE (x : Ent) : Prop := in16 x.dy ∧ in8 x.fr ∧ in8 x.to ∧ inU8 x.wh ∧ in16 x.nu
def wfH (x : Hol) : Prop := wfI6 x.fu ∧ wfI6 x.em ∧ wfI6 x.cr ∧ wfI6 x.br ∧ wfI6 x.mo
def wfP (x : Pri) : Prop := in16 x.bo ∧ in16 x.ct
def wfQ (x : Pay) : Prop := in8 x.pf ∧ in8 x.pt ∧ wfI6 x.am

def wi (lo hi n : Int) : Bool := decide (lo ≤ n) && decide (n ≤ hi)
theorem wi_iff {lo hi n : Int} : wi lo hi n = true ↔ lo ≤ n ∧ n ≤ hi := by simp [wi]
theorem wi_no {lo hi n : Int} : wi lo hi n = false ↔ n < lo ∨ hi < n := by
  rw [Bool.eq_false_iff, ne_eq, wi_iff]; omega
def prOk (p : Pri) : Bool := wi 0 1000 p.bo && wi 0 1000 p.ct
def enOk (n : Int) (e : Ent) : Bool := wi 1 6 n && (wi 0 10000 e.dy && (wi 0 (n - 1) e.fr && (wi 0 (n - 1) e.to && (decide (e.wh ≤ 4) && (wi 1 1000 e.nu && decide (e.fr = e.to ↔ 3 ≤ e.wh))))))
theorem enOk_iff {n : Int} {e : Ent} : enOk n e = true ↔ (1 ≤ n ∧ n ≤ 6) ∧ (0 ≤ e.dy ∧ e.dy ≤ 10000) ∧ (0 ≤ e.fr ∧ e.fr ≤ n - 1) ∧ (0 ≤ e.to ∧ e.to ≤ n - 1) ∧ e.wh ≤ 4 ∧ (1 ≤ e.nu ∧ e.nu ≤ 1000) ∧ (e.fr = e.to ↔ 3 ≤ e.wh) := by
  simp only [enOk, Bool.and_eq_true, decide_eq_true_eq, wi_iff]
/-- Is the entry with an index valid, and no earlier than the one before it? -/
def stOk (n : Int) (l : List Ent) (j : Nat) : Bool :=
  match l[j]? with
  | none => true
  | some x => enOk n x && (match j with
    | 0 => true
    | i + 1 => match l[i]? with
      | none => true
      | some y => decide (y.dy ≤ x.dy))
theorem stOk_zero {n : Int} {l : List Ent} {x : Ent} (h : l[0]? = some x) : stOk n l 0 = enOk n x := by
  simp [stOk, h]
theorem stOk_succ {n : Int} {l : List Ent} {i : Nat} {x y : Ent} (h : l[i + 1]? = some x) (hy : l[i]? = some y) : stOk n l (i + 1) = (enOk n x && decide (y.dy ≤ x.dy)) := by
  simp [stOk, h, hy]
theorem stOk_bad {n : Int} {l : List Ent} {j : Nat} {x : Ent} (h : l[j]? = some x) (hx : enOk n x = false) : stOk n l j = false := by
  simp [stOk, h, hx]
theorem stOk_en {n : Int} {l : List Ent} {j : Nat} {x : Ent} (h : l[j]? = some x) (hs : stOk n l j = true) : enOk n x = true := by
  cases hx : enOk n x
  · rw [stOk_bad h hx] at hs; cases hs
  · rfl
def UpTo (p : Nat → Bool) (k : Nat) : Prop := ∀ j, j < k → p j = true
theorem UpTo.zero (p : Nat → Bool) : UpTo p 0 := fun j h => absurd h (Nat.not_lt_zero _)
theorem UpTo.step {p : Nat → Bool} {k : Nat} (h : UpTo p k) (hk : p k = true) : UpTo p (k + 1) := fun j hj => by
  by_cases e : j = k
  · subst e; exact hk
  · exact h j (by omega)
def allN (p : Nat → Bool) (n : Nat) : Bool := (List.range n).all p
theorem UpTo.all {p : Nat → Bool} {n : Nat} (h : UpTo p n) : allN p n = true := by
  rw [allN, List.all_eq_true]; intro j hj; exact h j (List.mem_range.1 hj)
theorem UpTo.no {p : Nat → Bool} {n k : Nat} (hk : k < n) (h : p k = false) : allN p n = false := by
  rw [allN, List.all_eq_false]; exact ⟨k, List.mem_range.2 hk, by simp [h]⟩
theorem allN_out {p : Nat → Bool} {n : Nat} (h : allN p n = true) : UpTo p n := fun j hj => by
  rw [allN, List.all_eq_true] at h; exact h j (List.mem_range.2 hj)
def leOk (n : Int) (l : List Ent) : Bool := wi 1 6 n && (decide (l.length ≤ 80) && allN (stOk n l) l.length)
theorem leOk_out {n : Int} {l : List Ent} (h : leOk n l = true) : (1 ≤ n ∧ n ≤ 6) ∧ l.length ≤ 80 ∧ ∀ x ∈ l, enOk n x = true := by
  simp only [leOk, Bool.and_eq_true, decide_eq_true_eq, wi_iff] at h
  refine ⟨h.1, h.2.1, fun x hx => ?_⟩
  obtain ⟨j, hj, rfl⟩ := List.mem_iff_getElem.1 hx
  exact stOk_en (List.getElem?_eq_getElem hj) (allN_out h.2.2 j hj)
/-- A holding within its bounds; holdings. -/
def hoOk (h : Hol) : Bool := wi 0 1000000 h.fu && (wi 0 1000000 h.em && (wi 0 1000000 h.cr && (wi 0 1000000 h.br && wi (-1000000000) 1000000000 h.mo)))
theorem hoOk_iff {h : Hol} : hoOk h = true ↔ (0 ≤ h.fu ∧ h.fu ≤ 1000000) ∧ (0 ≤ h.em ∧ h.em ≤ 1000000) ∧ (0 ≤ h.cr ∧ h.cr ≤ 1000000) ∧ (0 ≤ h.br ∧ h.br ≤ 1000000) ∧ (-1000000000 ≤ h.mo ∧ h.mo ≤ 1000000000) := by
  simp only [hoOk, Bool.and_eq_true, wi_iff]
def paOk (n : Int) : Bool := wi 1 6 n
def hoC (l : List Hol) : Int := if paOk l.length = true then (if l.all hoOk = true then 0 else 2) else 1
def hoO (l : List Hol) : List (Option Nat) := [if paOk l.length = true then none else some 5, if l.all hoOk = true then none else some 0]
/-- Sums. -/
def hzero : Hol := ⟨0, 0, 0, 0, 0⟩
def hadd (a b : Hol) : Hol := ⟨a.fu + b.fu, a.em + b.em, a.cr + b.cr, a.br + b.br, a.mo + b.mo⟩
def hneg (a : Hol) : Hol := ⟨-a.fu, -a.em, -a.cr, -a.br, -a.mo⟩
def hsum (l : List Hol) : Nat → Hol
  | 0 => hzero
  | k + 1 => hadd (hsum l k) (l.getD k hzero)
theorem hsum_succ {l : List Hol} {k : Nat} {x : Hol} (h : l[k]? = some x) : hsum l (k + 1) = hadd (hsum l k) x := by
  rw [hsum, List.getD_eq_getElem?_getD, h]; rfl
def hin (b : Int) (a : Hol) : Prop := (-b ≤ a.fu ∧ a.fu ≤ b) ∧ (-b ≤ a.em ∧ a.em ≤ b) ∧ (-b ≤ a.cr ∧ a.cr ≤ b) ∧ (-b ≤ a.br ∧ a.br ≤ b) ∧ (-b ≤ a.mo ∧ a.mo ≤ b)
theorem hsum_in {l : List Hol} {b : Int} (hb : ∀ x ∈ l, hin b x) : ∀ k, k ≤ l.length → hin (b * k) (hsum l k)
  | 0, _ => by simp [hsum, hin, hzero]
  | k + 1, hk => by
    have ih := hsum_in hb k (by omega)
    have hx : l[k]? = some l[k] := List.getElem?_eq_getElem (by omega)
    have h1 := hb _ (List.getElem_mem (by omega : k < l.length))
    rw [hsum_succ hx]
    have e : b * ((k + 1 : Nat) : Int) = b * k + b := by rw [Int.natCast_succ, Int.mul_add, Int.mul_one]
    rw [e]
    obtain ⟨⟨a0, a1⟩, ⟨b0, b1⟩, ⟨c0, c1⟩, ⟨d0, d1⟩, e0, e1⟩ := ih
    obtain ⟨⟨f0, f1⟩, ⟨g0, g1⟩, ⟨h0, h1⟩, ⟨i0, i1⟩, j0, j1⟩ := h1
    generalize b * (k : Int) = c at *
    refine ⟨⟨?_, ?_⟩, ⟨?_, ?_⟩, ⟨?_, ?_⟩, ⟨?_, ?_⟩, ?_, ?_⟩ <;> simp only [hadd] <;> omega
theorem hoOk_in {h : Hol} (hh : hoOk h = true) : hin 1000000000 h := by
  obtain ⟨a, b, c, d, e⟩ := hoOk_iff.1 hh
  refine ⟨⟨?_, ?_⟩, ⟨?_, ?_⟩, ⟨?_, ?_⟩, ⟨?_, ?_⟩, ?_, ?_⟩ <;> omega
/-- What deposits are worth. -/
def dep (p : Pri) (h : Hol) : Int := (h.fu + h.em) * p.bo + h.cr * p.ct
end Go.Proofs.YtmfdgpinohbckaaDoor
