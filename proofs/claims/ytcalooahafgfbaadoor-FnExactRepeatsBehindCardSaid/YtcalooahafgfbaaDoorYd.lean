/-
  Spans of days: the program's checkSpan, the model's l05From and l05Span. Condition: the sentinel errors lie as the row lists them (the program's).
-/
import Derived.Test.YtcalooahafgfbaaDoorYa
import Derived.Test.YtcalooahafgfbaaDoorYu
namespace Go.Proofs.YtcalooahafgfbaaDoor
open Go.ChangeShapes Go.WideShapes Go.ChangeAt Go.RowKit Go.Deep

def spB (f t : Int) : Bool := inS f && inS t && decide (f ≤ t)
def spO (f t : Int) : Option Nat := firstO [chk 0 (inS f), chk 0 (inS t), chk 0 (decide (0 ≤ f) && decide (f ≤ t)), chk 1 (decide (t - f + 1 ≤ 400))]
/-- The code of a span behind a code. -/
def spC (cd f t : Int) : Int := if cd = 0 then (if t - f + 1 ≤ 400 then 0 else 3) else cd
theorem inS_out {d : Int} (h : inS d = true) : 0 ≤ d ∧ d ≤ 10000 := by simpa [inS] using h
theorem spB_out {f t : Int} (h : spB f t = true) : (0 ≤ f ∧ f ≤ 10000) ∧ (0 ≤ t ∧ t ≤ 10000) ∧ f ≤ t := by
  simp only [spB, Bool.and_eq_true, decide_eq_true_eq] at h
  exact ⟨inS_out h.1.1, inS_out h.1.2, h.2⟩
theorem spO_no {f t : Int} (h : spB f t = false) : spO f t = some 0 := by
  cases hf : inS f
  · simp [spO, hf, chk, firstO]
  cases ht : inS t
  · simp [spO, hf, ht, chk, firstO]
  have hl : decide (f ≤ t) = false := by simpa [spB, hf, ht] using h
  simp [spO, hf, ht, hl, chk, firstO]
theorem spO_yes {f t : Int} (h : spB f t = true) : spO f t = chk 1 (decide (t - f + 1 ≤ 400)) := by
  obtain ⟨hf, ht, hl⟩ := spB_out h
  have h1 : inS f = true := by simp [inS, hf]
  have h2 : inS t = true := by simp [inS, ht]
  have h3 : (decide (0 ≤ f) && decide (f ≤ t)) = true := by simp [hf.1, hl]
  rw [spO, h1, h2, h3]
  cases decide (t - f + 1 ≤ 400) <;> rfl
theorem spO_lt {f t : Int} : ∀ i, spO f t = some i → i < 7 := by
  refine firstO_lt ?_
  simp only [List.mem_cons, List.not_mem_nil, or_false]
  rintro o (rfl | rfl | rfl | rfl) <;> exact chk_lt (by omega)

end Go.Proofs.YtcalooahafgfbaaDoor
