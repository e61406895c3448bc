/-
  The first place at which a test holds; the contract of the model's l01First. No condition but the crate's length and that its numbers fit their kinds.
-/
import Derived.Test.YtjiihdljchaeiaeDoorV
import Derived.Deep.RegionHeld3
import Derived.WalkSmall
namespace Go.Proofs.YtjiihdljchaeiaeDoor
open Go.ChangeShapes Go.WideShapes Go.ChangeAt Go.RowKit Go.Deep

/-- Nothing fits before place k. -/
def FpTo (f : Bot → Bool) (bs : List Bot) (k : Nat) : Prop := ∀ j b, j < k → bs[j]? = some b → f b = false
theorem FpTo.step {f : Bot → Bool} {bs : List Bot} {k : Nat} (h : FpTo f bs k) {b : Bot} (hb : bs[k]? = some b) (ho : f b = false) : FpTo f bs (k + 1) := by
  intro j c hj hc
  by_cases e : j = k
  · subst e; rw [hb] at hc; cases hc; exact ho
  · exact h j c (by omega) hc
/-- The first place that fits; -1 if there is none. -/
def fp (f : Bot → Bool) (bs : List Bot) : Int := match bs.findIdx? f with | some k => k | none => -1
theorem fp_hit {f : Bot → Bool} {bs : List Bot} {k : Nat} {b : Bot} (h : FpTo f bs k) (hb : bs[k]? = some b) (hf : f b = true) : fp f bs = k := by
  have : bs.findIdx? f = some k := by
    rw [List.findIdx?_eq_some_iff_getElem]
    obtain ⟨hlt, he⟩ := List.getElem?_eq_some_iff.1 hb
    refine ⟨hlt, by rw [he]; exact hf, fun j hj => ?_⟩
    have := h j _ hj (List.getElem?_eq_getElem (by omega))
    simp [this]
  simp [fp, this]
theorem fp_none {f : Bot → Bool} {bs : List Bot} (h : FpTo f bs bs.length) : fp f bs = -1 := by
  have : bs.findIdx? f = none := by
    rw [List.findIdx?_eq_none_iff]
    intro x hx
    obtain ⟨j, hj, rfl⟩ := List.mem_iff_getElem.1 hx
    exact h j _ hj (List.getElem?_eq_getElem hj)
  simp [fp, this]
theorem fp_cases (f : Bot → Bool) (bs : List Bot) : (∃ k b, bs[k]? = some b ∧ f b = true ∧ FpTo f bs k ∧ fp f bs = k) ∨ (FpTo f bs bs.length ∧ fp f bs = -1) := by
  cases h : bs.findIdx? f with
  | some k =>
    rw [List.findIdx?_eq_some_iff_getElem] at h
    obtain ⟨hlt, hf, hj⟩ := h
    have hT : FpTo f bs k := fun j b hjk hb => by
      obtain ⟨hl, he⟩ := List.getElem?_eq_some_iff.1 hb
      have := hj j hjk
      rw [he] at this; simpa using this
    exact .inl ⟨k, bs[k], List.getElem?_eq_getElem hlt, hf, hT, fp_hit hT (List.getElem?_eq_getElem hlt) hf⟩
  | none =>
    rw [List.findIdx?_eq_none_iff] at h
    have hT : FpTo f bs bs.length := fun j b _ hb => h b (List.mem_of_getElem? hb)
    exact .inr ⟨hT, fp_none hT⟩
/-- Are two bottles alike? -/
def eqB (p b : Bot) : Bool := decide (b.1 = p.1) && decide (b.2 = p.2)

end Go.Proofs.YtjiihdljchaeiaeDoor
