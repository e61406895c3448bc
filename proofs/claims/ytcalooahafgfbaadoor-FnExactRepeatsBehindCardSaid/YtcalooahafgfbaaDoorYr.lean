/-
  Rows of numbers of eight bits; the contracts of toRow and of eqRow at equal rows. Condition: a row of at most 1048576 numbers.
-/
import Derived.Test.YtcalooahafgfbaaDoorL
import Derived.Test.YtcalooahafgfbaaDoorYm
import Derived.Test.YtcalooahafgfbaaDoorFlb
import Derived.Deep.RegionHeld3
import Derived.WalkSmall
import Derived.OwnWalk
import Derived.Laws.AppendOwn
import Derived.Laws.MakeOwn
import Derived.Maps.AppendAt
namespace Go.Proofs.YtcalooahafgfbaaDoor
open Go.ChangeShapes Go.WideShapes Go.ChangeAt Go.RowKit Go.Deep

def wfY (n : Int) : Prop := 0 ≤ n ∧ n ≤ 255
def ycells (n : Int) : List Value := [.int .u8 n]
theorem ycells_length (n : Int) : (ycells n).length = 1 := rfl
theorem ycells_of (cs : List Value) (h : FitsL [.u8] cs) : ∃ b, wfY b ∧ cs = ycells b := by
  match cs, h.length, h with
  | [c0], _, h =>
    obtain ⟨⟨n, rfl, hn⟩, _⟩ := h
    exact ⟨n, bounds_u8 hn, rfl⟩
theorem Tryd.flatY : FlatT Tryd.prog 5 [.u8] := .int Tryd.underlying5
theorem Tryd.cellsY : Tryd.prog.cellsOf 5 = 1 := by kernel_rfl
theorem Tryd.infoY : (Tryd.prog.info? 5).map (fun i => (i.zero, i.size, i.bytes)) = some (some (.int .u8 0), 1, 1) := by kernel_rfl
theorem rowY {w : World} {b o k : Nat} {n : Int} (h : w.rangeAt b (o + k * 1) (ycells n)) : w.cell? ⟨b, o + k, none⟩ = some (.int .u8 n) := by
  have := h 0 (.int .u8 n) rfl
  simpa using this

/-- What stands between two rounds of toRow. -/
def TY (xs : List Int) (w : World) (k : Nat) (X : List Int) (wr : World) : Prop :=
  X.length = xs.length ∧ (∀ j, j < k → X[j]? = xs[j]?) ∧ Rs wr w.heap.size 5 ycells X ∧ Below w.heap.size w wr
theorem TY.step {xs : List Int} {w wr : World} {k : Nat} {X : List Int} {x : Int} (h : TY xs w k X wr) (hk : xs[k]? = some x) :
    TY xs w (k + 1) (X.set k x) (wr.setCell ⟨w.heap.size, k, none⟩ (.int .u8 x)) := by
  obtain ⟨hX, hj, hO, hB⟩ := h
  have hkl := (List.getElem?_eq_some_iff.1 hk).1
  refine ⟨by simp [hX], fun j hjk => ?_, ?_, hB.setCell (p := ⟨w.heap.size, k, none⟩) (Nat.le_refl _) _⟩
  · by_cases e : j = k
    · subst e
      rw [List.getElem?_set_self (by omega), hk]
    · rw [List.getElem?_set_ne (by omega)]
      exact hj j (by omega)
  · have := Rs.set_ ycells_length hO (k := k) (by omega) x
    rw [Nat.mul_one] at this
    exact this
theorem TY.same {xs : List Int} {w : World} {X : List Int} {wr : World} (h : TY xs w xs.length X wr) : X = xs := by
  apply List.ext_getElem?
  intro j
  by_cases hj : j < xs.length
  · exact h.2.1 j hj
  · rw [List.getElem?_eq_none (by rw [h.1]; omega), List.getElem?_eq_none (by omega)]

end Go.Proofs.YtcalooahafgfbaaDoor
