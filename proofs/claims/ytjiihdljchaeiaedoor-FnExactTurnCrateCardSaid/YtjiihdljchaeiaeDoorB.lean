/-
  A crate's block turned round: how the shelf's words on rows read at a crate. No condition but the crate's length.
-/
import Derived.Shelf.SlicesQ.Reverse
import Derived.Ground.SlgnProg
import Derived.Test.YtjiihdljchaeiaeDoorV
namespace Go.Proofs.YtjiihdljchaeiaeDoor
open Go.RowKit Go.Shelf Go.Lib

theorem flat_ccells (bs : List Bot) : Sort.flatK bcells 2 bs.toArray = (ccells bs).toArray := by
  have hl := ccells_length bs
  apply Array.ext_getElem?
  intro j
  by_cases hj : j < bs.length * 2
  · have h1 : j / 2 < bs.length := by omega
    have hL : (Sort.flatK bcells 2 bs.toArray)[j]? = some ((bcells bs.toArray[j / 2]!)[j % 2]!) := by
      simp [Sort.flatK, hj]
    rw [hL]
    have hb : bs.toArray[j / 2]! = bs[j / 2] := by simp [h1]
    rw [hb]
    have hm : j % 2 = 0 ∨ j % 2 = 1 := by omega
    rcases hm with hm | hm
    · have e := ccells_even bs (j / 2) h1
      have : 2 * (j / 2) = j := by omega
      rw [this] at e
      simp [e, hm, bcells]
    · have e := ccells_odd bs (j / 2) h1
      have : 2 * (j / 2) + 1 = j := by omega
      rw [this] at e
      simp [e, hm, bcells]
  · rw [Array.getElem?_eq_none (by simp; omega), Array.getElem?_eq_none (by simp; omega)]

theorem holds_crate {w : World} {B : Nat} {t : TypeId} {bs : List Bot} (h : CBlk w B t bs) : Sort.HoldsK bcells 2 w B 0 bs.toArray := by
  intro j hj
  rw [flat_ccells] at hj ⊢
  have hj' : j < (ccells bs).length := by simpa using hj
  refine ⟨?_, h.frozen _⟩
  rw [h.cell (0 + j), Nat.zero_add, List.getElem?_eq_getElem hj']
  simp [hj']

theorem cblk_putRow {w : World} {B : Nat} {t : TypeId} {bs cs : List Bot} (h : CBlk w B t bs) (hl : cs.length = bs.length) : CBlk (Sort.putRowK bcells 2 w B 0 cs.toArray) B t cs := by
  unfold CBlk at h ⊢
  have hlb := ccells_length bs
  have hlc := ccells_length cs
  simp only [Sort.putRowK, Sort.putRow, Sort.mapBlock, Array.getElem?_modify, if_true, h, Option.map_some, Sort.onCells, flat_ccells]
  congr 2
  apply Array.ext_getElem?
  intro j
  simp only [Sort.putCells, Array.getElem?_mapIdx]
  by_cases hj : j < (ccells bs).length
  · have hj2 : j < (ccells cs).length := by omega
    simp [hj, hj2]
  · simp [List.getElem?_eq_none (Nat.le_of_not_lt hj), List.getElem?_eq_none (show (ccells cs).length ≤ j by omega)]
theorem below_putRow {N : Nat} {a w : World} (h : Below N a w) (B : Nat) (hB : N ≤ B) (cs : List Bot) : Below N a (Sort.putRowK bcells 2 w B 0 cs.toArray) := by
  refine h.trans ⟨rfl, rfl, rfl, by simp [Sort.putRowK, Sort.putRow, Sort.mapBlock], fun k hk => ?_⟩
  simp only [Sort.putRowK, Sort.putRow, Sort.mapBlock, Array.getElem?_modify]
  rw [if_neg (by omega)]
theorem below_ahead {N : Nat} {a w : World} (h : Below N a w) (n : Nat) : Below N a (Sort.ahead w n) := h.trans ⟨rfl, rfl, rfl, Nat.le_refl _, fun _ _ => rfl⟩
theorem cblk_ahead {w : World} {B : Nat} {t : TypeId} {bs : List Bot} (h : CBlk w B t bs) (n : Nat) : CBlk (Sort.ahead w n) B t bs := h
end Go.Proofs.YtjiihdljchaeiaeDoor
