/-
  The error for ranges lies as it should. No condition of its own.
-/
import Derived.Test.YtajnkkiabjiplabDoorE
namespace Go.Proofs.YtajnkkiabjiplabDoor
open Go.ChangeShapes Go.WideShapes Go.ChangeAt Go.RowKit Go.Deep

structure I0 (W : World) (ad : Nat → Addr) : Prop where
  c0 : W.cell? ⟨1, 0, none⟩ = some (.iface 109 (.pointer (some (ad 0))))
theorem I0.below {W W' : World} {ad : Nat → Addr} (h : I0 W ad) {B : Nat} (hb : Below B W W') (hB : W.heap.size ≤ B) : I0 W' ad :=
  ⟨(hb.cell (p := ⟨1, 0, none⟩) (Nat.lt_of_lt_of_le (block_lt_of_cell h.c0) hB)).trans h.c0⟩
end Go.Proofs.YtajnkkiabjiplabDoor
