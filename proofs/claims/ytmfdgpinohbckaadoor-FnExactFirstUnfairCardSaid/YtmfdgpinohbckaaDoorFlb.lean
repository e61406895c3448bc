/-
  What a make of rows leaves; two rows that are kept. No condition of its own.
-/
import Derived.Test.YtmfdgpinohbckaaDoorFlat
namespace Go.Proofs.YtmfdgpinohbckaaDoor
open Go.ChangeShapes Go.WideShapes Go.ChangeAt Go.RowKit Go.Joins Go.Deep

theorem made_rows {T : Type} {cells : T → List Value} {size : Nat} (hs : ∀ b, (cells b).length = size) (z : T) (zc : Array Value) (hz : zc = (cells z).toArray) (h0 : 0 < size) (n : Nat) : (madeCells zc (n * size)).toList = (List.replicate n z).flatMap cells := by
  subst hz
  apply List.ext_getElem?
  intro i
  by_cases hi : i < n * size
  · have hk : i / size < n := Nat.div_lt_of_lt_mul (by rw [Nat.mul_comm]; exact hi)
    have hr := rows_get hs (List.replicate n z) (k := i / size) (b := z) (by rw [List.getElem?_replicate, if_pos hk]) (i % size) (Nat.mod_lt _ h0)
    rw [Nat.div_add_mod' i size] at hr
    rw [hr]
    have hm : i % size < (cells z).length := by rw [hs]; exact Nat.mod_lt _ h0
    simp [madeCells, hi, hs, List.getElem?_eq_getElem hm]
  · rw [List.getElem?_eq_none (by simp [madeCells]; omega), List.getElem?_eq_none (by rw [rows_length hs]; simp; omega)]

theorem keptR {W0 w1 w2 : World} {b o b' o' : Nat} {cs cs' : List Value} (hb : b < W0.heap.size) (hb' : b' < W0.heap.size) (h : Below W0.heap.size W0 w1) (h2 : Below w1.heap.size w1 w2) (r : w1.rangeAt b o cs) (r' : w1.rangeAt b' o' cs') :
    w2.rangeAt b o cs ∧ w2.rangeAt b' o' cs' ∧ Below W0.heap.size W0 w2 :=
  ⟨rangeAt_below r h2 (Nat.lt_of_lt_of_le hb h.size), rangeAt_below r' h2 (Nat.lt_of_lt_of_le hb' h.size), h.trans (h2.mono h.size)⟩

end Go.Proofs.YtmfdgpinohbckaaDoor
