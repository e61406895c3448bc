/-
  What entries change: goods, changes, holdings behind an entry and behind several. No program.
-/
import Derived.Test.YtjgafdfffmfhhabDoorHm
namespace Go.Proofs.YtjgafdfffmfhhabDoor
open Go.RowKit

def nmE (e : Ent) : Int := max 0 e.nu
theorem nmE_in {e : Ent} (h : wfE e) : 0 ≤ nmE e ∧ nmE e ≤ 32767 := by
  have := h.2.2.2.2; unfold nmE; unfold in16 at this; omega
theorem nmE_ok {e : Ent} {n : Int} (h : enOk n e = true) : nmE e = e.nu ∧ 1 ≤ e.nu ∧ e.nu ≤ 1000 := by
  have := (enOk_iff.1 h).2.2.2.2.2.1; unfold nmE; omega
/-- What goes from From to To; what is taken from From. -/
def gds (e : Ent) : Hol := if e.wh = 0 then ⟨nmE e, 0, 0, 0, 0⟩ else if e.wh = 1 then ⟨0, nmE e, 0, 0, 0⟩ else if e.wh = 2 then ⟨0, 0, nmE e, 0, 0⟩ else hzero
/-- What From and To have more than before. -/
def chF (p : Pri) (e : Ent) : Hol := if e.wh = 3 then ⟨-nmE e, nmE e, 0, 0, 0⟩ else if e.wh = 4 then ⟨-nmE e, 0, 0, nmE e, 0⟩ else ⟨-(gds e).fu, -(gds e).em, -(gds e).cr, 0, dep p (gds e)⟩
def chT (p : Pri) (e : Ent) : Hol := if e.wh = 3 then hzero else if e.wh = 4 then hzero else ⟨(gds e).fu, (gds e).em, (gds e).cr, 0, -dep p (gds e)⟩
def shB (h : Hol) : Bool := decide (h.fu < 0) || (decide (h.em < 0) || (decide (h.cr < 0) || decide (h.br < 0)))
/-- The holdings behind an entry, and its error. -/
def apL (p : Pri) (l : List Hol) (e : Ent) : List Hol :=
  let l1 := l.set e.fr.toNat (hadd (l.getD e.fr.toNat hzero) (chF p e))
  l1.set e.to.toNat (hadd (l1.getD e.to.toNat hzero) (chT p e))
theorem apL_len (p : Pri) (l : List Hol) (e : Ent) : (apL p l e).length = l.length := by simp [apL]
def apO (p : Pri) (l : List Hol) (e : Ent) : Option Nat :=
  if shB ((apL p l e).getD e.fr.toNat hzero) = true then some 2 else if (hoOk ((apL p l e).getD e.fr.toNat hzero) && hoOk ((apL p l e).getD e.to.toNat hzero)) = true then none else some 1
theorem apO_lt {p : Pri} {l : List Hol} {e : Ent} : ∀ i, apO p l e = some i → i < 7 := by
  intro i h
  unfold apO at h
  split at h
  · cases h; omega
  · split at h
    · cases h
    · cases h; omega
/-- The holdings behind the first entries, while none has an error; the first error. -/
def rpA (p : Pri) (l : List Hol) (es : List Ent) : Nat → List Hol
  | 0 => l
  | k + 1 => apL p (rpA p l es k) (es.getD k ⟨0, 0, 0, 0, 0⟩)
theorem rpA_succ {p : Pri} {l : List Hol} {es : List Ent} {k : Nat} {e : Ent} (h : es[k]? = some e) : rpA p l es (k + 1) = apL p (rpA p l es k) e := by
  rw [rpA, List.getD_eq_getElem?_getD, h]; rfl
theorem rpA_len (p : Pri) (l : List Hol) (es : List Ent) : ∀ k, (rpA p l es k).length = l.length
  | 0 => rfl
  | k + 1 => by rw [rpA, apL_len, rpA_len p l es k]
def badE (p : Pri) (l : List Hol) (es : List Ent) (k : Nat) : Option Nat := apO p (rpA p l es k) (es.getD k ⟨0, 0, 0, 0, 0⟩)
theorem badE_at {p : Pri} {l : List Hol} {es : List Ent} {k : Nat} {e : Ent} (h : es[k]? = some e) : badE p l es k = apO p (rpA p l es k) e := by
  rw [badE, List.getD_eq_getElem?_getD, h]; rfl
def okTo (p : Pri) (l : List Hol) (es : List Ent) (k : Nat) : Prop := ∀ j, j < k → badE p l es j = none
theorem okTo.zero (p : Pri) (l : List Hol) (es : List Ent) : okTo p l es 0 := fun j h => absurd h (Nat.not_lt_zero _)
theorem okTo.step {p : Pri} {l : List Hol} {es : List Ent} {k : Nat} (h : okTo p l es k) (hk : badE p l es k = none) : okTo p l es (k + 1) := fun j hj => by
  by_cases e : j = k
  · subst e; exact hk
  · exact h j (by omega)
/-- The first entry with an error, and this. -/
def rpE (p : Pri) (l : List Hol) (es : List Ent) : Option (Nat × Nat) := (List.range es.length).findSome? fun k => (badE p l es k).map fun i => (k, i)
theorem rpE_none {p : Pri} {l : List Hol} {es : List Ent} (h : okTo p l es es.length) : rpE p l es = none := by
  rw [rpE, List.findSome?_eq_none_iff]
  intro k hk
  rw [h k (List.mem_range.1 hk)]; rfl
theorem findSome_first {α : Type} (f : Nat → Option α) : ∀ (n k : Nat) (x : α), k < n → (∀ j, j < k → f j = none) → f k = some x → (List.range n).findSome? f = some x := by
  intro n k x hk hj hx
  induction n with
  | zero => omega
  | succ n ih =>
    rw [List.range_succ, List.findSome?_append]
    by_cases e : k = n
    · subst e
      have : (List.range k).findSome? f = none := by
        rw [List.findSome?_eq_none_iff]; intro j hj'; exact hj j (List.mem_range.1 hj')
      rw [this]; simp [hx]
    · rw [ih (by omega)]; rfl
theorem rpE_some {p : Pri} {l : List Hol} {es : List Ent} {k i : Nat} (hk : k < es.length) (h : okTo p l es k) (hb : badE p l es k = some i) : rpE p l es = some (k, i) :=
  findSome_first _ _ _ _ hk (fun j hj => by rw [h j hj]; rfl) (by rw [hb]; rfl)
/-- Holdings within their bounds stay so while nothing is wrong. -/
def goodL (l : List Hol) : Prop := ∀ x ∈ l, hoOk x = true
theorem apL_good {p : Pri} {l : List Hol} {e : Ent} (hf : e.fr.toNat < l.length) (ht : e.to.toNat < l.length) (hl : goodL l) (h : apO p l e = none) : goodL (apL p l e) := by
  have hb : hoOk ((apL p l e).getD e.fr.toNat hzero) = true ∧ hoOk ((apL p l e).getD e.to.toNat hzero) = true := by
    unfold apO at h
    split at h
    · cases h
    · split at h
      · rename_i h2; simpa using h2
      · cases h
  intro x hx
  obtain ⟨j, hj, rfl⟩ := List.mem_iff_getElem.1 hx
  rw [apL_len] at hj
  have key : ∀ i (hi : i < l.length), (apL p l e).getD i hzero = (apL p l e)[i]'(by rw [apL_len]; exact hi) := fun i hi => by
    rw [List.getD_eq_getElem?_getD, List.getElem?_eq_getElem (by rw [apL_len]; exact hi)]; rfl
  by_cases h1 : j = e.fr.toNat
  · subst h1; rw [key _ hf] at hb; exact hb.1
  by_cases h2 : j = e.to.toNat
  · subst h2; rw [key _ ht] at hb; exact hb.2
  have : (apL p l e)[j]'(by rw [apL_len]; exact hj) = l[j] := by
    simp only [apL]
    rw [List.getElem_set_ne (by omega), List.getElem_set_ne (by omega)]
  rw [this]
  exact hl _ (List.getElem_mem _)
end Go.Proofs.YtjgafdfffmfhhabDoor
