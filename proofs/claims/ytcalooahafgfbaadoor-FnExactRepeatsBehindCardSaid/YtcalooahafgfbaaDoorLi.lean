/-
  Rows of numbers; the contracts of toInt64S, of eqInt64S at equal lists, and of the model's l00Has. Condition: a list of at most 1048576 numbers.
-/
import Derived.Test.YtcalooahafgfbaaDoorI6
import Derived.Test.YtcalooahafgfbaaDoorL
import Derived.Test.YtcalooahafgfbaaDoorFlb
import Derived.Deep.RegionHeld3
import Derived.WalkSmall
namespace Go.Proofs.YtcalooahafgfbaaDoor
open Go.ChangeShapes Go.WideShapes Go.ChangeAt Go.RowKit Go.Deep

def wfI (n : Int) : Prop := -9223372036854775808 ≤ n ∧ n ≤ 9223372036854775807
def icells (n : Int) : List Value := [.int .i64 n]
theorem icells_length (n : Int) : (icells n).length = 1 := rfl
theorem icells_of (cs : List Value) (h : FitsL [.i64] cs) : ∃ b, wfI b ∧ cs = icells b := by
  match cs, h.length, h with
  | [c0], _, h =>
    obtain ⟨⟨n, rfl, hn⟩, _⟩ := h
    exact ⟨n, bounds_i64 hn, rfl⟩
theorem Tryd.flat64 : FlatT Tryd.prog 2 [.i64] := .int Tryd.underlying2
theorem Tryd.cells64 : Tryd.prog.cellsOf 2 = 1 := by kernel_rfl
theorem rowI {w : World} {b o k : Nat} {n : Int} (h : w.rangeAt b (o + k * 1) (icells n)) : w.cell? ⟨b, o + k, none⟩ = some (.int .i64 n) := by
  have := h 0 (.int .i64 n) rfl
  simpa using this
theorem Rd.take {T : Type} {w : World} {B : Nat} {cells : T → List Value} {A : Option Addr} {xs : List T} (h : Rd w B cells A xs) (k : Nat) : Rd w B cells A (xs.take k) := fun hn => by
  obtain ⟨b, o, e, hb, hr⟩ := h (by rw [List.length_take] at hn; omega)
  refine ⟨b, o, e, hb, fun j v hv => hr j v ?_⟩
  have hj := (List.getElem?_eq_some_iff.1 hv).1
  have e2 : xs.flatMap cells = (xs.take k).flatMap cells ++ (xs.drop k).flatMap cells := by rw [← List.flatMap_append, List.take_append_drop]
  rw [e2, List.getElem?_append_left hj, hv]

/-- What stands between two rounds of toInt64S. -/
def TI (xs : List Int) (w : World) (k : Nat) (X : List Int) (wr : World) : Prop :=
  X.length = xs.length ∧ (∀ j, j < k → X[j]? = xs[j]?) ∧ Rs wr w.heap.size 2 icells X ∧ Below w.heap.size w wr
theorem TI.step {xs : List Int} {w wr : World} {k : Nat} {X : List Int} {x : Int} (h : TI xs w k X wr) (hk : xs[k]? = some x) :
    TI xs w (k + 1) (X.set k x) (wr.setCell ⟨w.heap.size, k, none⟩ (.int .i64 x)) := by
  obtain ⟨hX, hj, hO, hB⟩ := h
  have hkl := (List.getElem?_eq_some_iff.1 hk).1
  refine ⟨by simp [hX], fun j hjk => ?_, ?_, hB.setCell (p := ⟨w.heap.size, k, none⟩) (Nat.le_refl _) _⟩
  · by_cases e : j = k
    · subst e
      rw [List.getElem?_set_self (by omega), hk]
    · rw [List.getElem?_set_ne (by omega)]
      exact hj j (by omega)
  · have := Rs.set_ icells_length hO (k := k) (by omega) x
    rw [Nat.mul_one] at this
    exact this
theorem TI.same {xs : List Int} {w : World} {X : List Int} {wr : World} (h : TI xs w xs.length X wr) : X = xs := by
  apply List.ext_getElem?
  intro j
  by_cases hj : j < xs.length
  · exact h.2.1 j hj
  · rw [List.getElem?_eq_none (by rw [h.1]; omega), List.getElem?_eq_none (by omega)]

end Go.Proofs.YtcalooahafgfbaaDoor
