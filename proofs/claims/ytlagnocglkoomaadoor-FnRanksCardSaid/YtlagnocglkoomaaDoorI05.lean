/-
  The errors for what is invalid and for ranges lie as they should. No condition of its own.
-/
import Derived.Test.YtlagnocglkoomaaDoorE
namespace Go.Proofs.YtlagnocglkoomaaDoor
open Go.ChangeShapes Go.WideShapes Go.ChangeAt Go.RowKit Go.Deep

structure I05 (W : World) (ad : Nat → Addr) : Prop where
  c0 : W.cell? ⟨1, 0, none⟩ = some (.iface 121 (.pointer (some (ad 0))))
  c5 : W.cell? ⟨0, 0, none⟩ = some (.iface 121 (.pointer (some (ad 5))))
theorem I05.below {W W' : World} {ad : Nat → Addr} (h : I05 W ad) {B : Nat} (hb : Below B W W') (hB : W.heap.size ≤ B) : I05 W' ad :=
  ⟨(hb.cell (p := ⟨1, 0, none⟩) (Nat.lt_of_lt_of_le (block_lt_of_cell h.c0) hB)).trans h.c0,
   (hb.cell (p := ⟨0, 0, none⟩) (Nat.lt_of_lt_of_le (block_lt_of_cell h.c5) hB)).trans h.c5⟩
theorem I05.of7 {W : World} {ad : Nat → Addr} (h : EW 7 W ad) : I05 W ad := ⟨h.cell 0 (by omega), h.cell 5 (by omega)⟩
end Go.Proofs.YtlagnocglkoomaaDoor
