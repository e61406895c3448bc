/-
  Outcomes of checks: none, or the number of a sentinel; the first of several; its code. Condition: the sentinel errors lie as the row lists them.
-/
import Derived.Test.YtcdhmlalpjcidaaDoorFn
namespace Go.Proofs.YtcdhmlalpjcidaaDoor
open Go.ChangeShapes Go.WideShapes Go.ChangeAt Go.RowKit Go.Deep

/-- What an outcome is as a value. -/
def erO (ad : Nat → Addr) (o : Option Nat) : Value := match o with | none => .nilIface | some i => .iface 173 (.pointer (some (ad i)))
theorem erO_none (ad : Nat → Addr) : erO ad none = .nilIface := rfl
theorem erO_some (ad : Nat → Addr) (i : Nat) : erO ad (some i) = .iface 173 (.pointer (some (ad i))) := rfl
theorem erO_isE (ad : Nat → Addr) (o : Option Nat) : isE (erO ad o) := by
  cases o with
  | none => exact .inl rfl
  | some i => exact .inr ⟨_, rfl⟩
def firstO : List (Option Nat) → Option Nat
  | [] => none
  | none :: r => firstO r
  | some i :: _ => some i
def chk (k : Nat) (b : Bool) : Option Nat := if b = true then none else some k
theorem chk_yes (k : Nat) : chk k true = none := rfl
theorem chk_no (k : Nat) : chk k false = some k := rfl
theorem erV_chk (ad : Nat → Addr) (k : Nat) (b : Bool) : erV ad k b = erO ad (chk k b) := by cases b <;> rfl
theorem firstL_O (ad : Nat → Addr) : ∀ os : List (Option Nat), firstL (os.map (erO ad)) = erO ad (firstO os)
  | [] => rfl
  | none :: r => firstL_O ad r
  | some i :: r => rfl
def cdN : Nat → Int
  | 0 => 2
  | 1 => 3
  | 2 => 4
  | 3 => 5
  | 4 => 6
  | 5 => 1
  | _ => 8
def cdO : Option Nat → Int
  | none => 0
  | some i => cdN i
theorem codeOf_O {w : World} {ad : Nat → Addr} (h : EW 7 w ad) (i : Nat) (hi : i < 7) : Calls Tryd.prog 39 #[.iface 173 (.pointer (some (ad i)))] w fun e w' => e = .returned (.int .i64 (cdN i)) ∧ w = w' := by
  have : i = 0 ∨ i = 1 ∨ i = 2 ∨ i = 3 ∨ i = 4 ∨ i = 5 ∨ i = 6 := by omega
  rcases this with rfl | rfl | rfl | rfl | rfl | rfl | rfl
  · exact codeOf_0 (h.less (by omega))
  · exact codeOf_1 (h.less (by omega))
  · exact codeOf_2 (h.less (by omega))
  · exact codeOf_3 (h.less (by omega))
  · exact codeOf_4 (h.less (by omega))
  · exact codeOf_5 h
  · exact codeOf_6 h
theorem codeOf_any {w : World} {ad : Nat → Addr} (h : EW 7 w ad) (o : Option Nat) (ho : ∀ i, o = some i → i < 7) : Calls Tryd.prog 39 #[erO ad o] w fun e w' => e = .returned (.int .i64 (cdO o)) ∧ w = w' := by
  cases o with
  | none => exact codeOf_nil w
  | some i => exact codeOf_O h i (ho i rfl)
theorem firstErr_O (ad : Nat → Addr) (os : List (Option Nat)) (B c : Nat) (w : World) (hl : os.length ≤ 1048576) (h : ∀ (j : Nat) (o : Option Nat), os[j]? = some o → w.cell? ⟨B, j, none⟩ = some (erO ad o)) :
    Calls Tryd.prog 76 #[.slice (some ⟨B, 0, none⟩) os.length c] w fun e w' => e = .returned (erO ad (firstO os)) ∧ w = w' := by
  have := firstErrs_any (os.map (erO ad)) (fun v hv => by obtain ⟨o, -, rfl⟩ := List.mem_map.1 hv; exact erO_isE ad o) B c w (by simpa using hl) (fun j v hv => by
    rw [List.getElem?_map] at hv
    obtain ⟨o, ho, rfl⟩ := Option.map_eq_some_iff.1 hv
    exact h j o ho)
  rw [List.length_map, firstL_O] at this
  exact this
theorem firstErr2_O (ad : Nat → Addr) (o0 o1 : Option Nat) (B c : Nat) (w : World) (h0 : w.cell? ⟨B, 0, none⟩ = some (erO ad o0)) (h1 : w.cell? ⟨B, 1, none⟩ = some (erO ad o1)) :
    Calls Tryd.prog 76 #[.slice (some ⟨B, 0, none⟩) 2 c] w fun e w' => e = .returned (erO ad (firstO [o0, o1])) ∧ w = w' :=
  firstErr_O ad [o0, o1] B c w (by simp) (fun j o ho => by
    match j with
    | 0 => obtain rfl := Option.some.inj ho; exact h0
    | 1 => obtain rfl := Option.some.inj ho; exact h1
    | _ + 2 => simp at ho)
theorem firstErr3_O (ad : Nat → Addr) (o0 o1 o2 : Option Nat) (B c : Nat) (w : World) (h0 : w.cell? ⟨B, 0, none⟩ = some (erO ad o0)) (h1 : w.cell? ⟨B, 1, none⟩ = some (erO ad o1)) (h2 : w.cell? ⟨B, 2, none⟩ = some (erO ad o2)) :
    Calls Tryd.prog 76 #[.slice (some ⟨B, 0, none⟩) 3 c] w fun e w' => e = .returned (erO ad (firstO [o0, o1, o2])) ∧ w = w' :=
  firstErr_O ad [o0, o1, o2] B c w (by simp) (fun j o ho => by
    match j with
    | 0 => obtain rfl := Option.some.inj ho; exact h0
    | 1 => obtain rfl := Option.some.inj ho; exact h1
    | 2 => obtain rfl := Option.some.inj ho; exact h2
    | _ + 3 => simp at ho)
theorem firstO_lt {os : List (Option Nat)} (h : ∀ o ∈ os, ∀ i, o = some i → i < 7) : ∀ i, firstO os = some i → i < 7 := by
  induction os with
  | nil => intro i e; cases e
  | cons o os ih =>
    intro i e
    cases o with
    | none => exact ih (fun o ho => h o (List.mem_cons_of_mem _ ho)) i e
    | some j => exact h _ (List.mem_cons_self ..) i e
theorem chk_lt {k : Nat} {b : Bool} (hk : k < 7) : ∀ i, chk k b = some i → i < 7 := by
  intro i e; cases b
  · cases e; exact hk
  · cases e
theorem cdN_ne {i : Nat} : cdN i ≠ 0 := by
  unfold cdN; split <;> omega
end Go.Proofs.YtcdhmlalpjcidaaDoor
