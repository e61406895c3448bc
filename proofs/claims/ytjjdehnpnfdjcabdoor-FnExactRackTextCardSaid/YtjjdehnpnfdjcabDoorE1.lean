/-
  The error for what is invalid lies as it should. No condition of its own.
-/
import Derived.Test.YtjjdehnpnfdjcabDoorL
import Derived.WalkKit
import Derived.LaidEql
import Derived.Stop.LaidErr
import Derived.RowKitTokens
import Derived.Lib.Hide
namespace Go.Proofs.YtjjdehnpnfdjcabDoor
open Go.ChangeShapes Go.WideShapes Go.ChangeAt Go.RowKit Go.Extern.Stop Go.Stop Go.Extern

/-- The variable's number. -/
def gN : Nat → Nat
  | _ => 0
/-- The value of an error that lies at a. -/
def errV (a : Addr) : Value := .iface 136 (.pointer (some a))
/-- The first n sentinels lie as they should. -/
structure EW (n : Nat) (W : World) (ad : Nat → Addr) : Prop where
  cell : ∀ i, i < n → W.cell? ⟨gN i, 0, none⟩ = some (.iface 136 (.pointer (some (ad i))))
  row : ∀ i, i < n → ∃ c t, W.heap[(ad i).block]? = some (.cells c t (0, 0))
  ne : ∀ i j, i < n → j < n → i ≠ j → ad i ≠ ad j
theorem EW.below {n : Nat} {W W' : World} {ad : Nat → Addr} (h : EW n W ad) {B : Nat} (hb : Below B W W') (hB : W.heap.size ≤ B) : EW n W' ad :=
  ⟨fun i hi => (hb.cell (p := ⟨gN i, 0, none⟩) (Nat.lt_of_lt_of_le (block_lt_of_cell (h.cell i hi)) hB)).trans (h.cell i hi),
   fun i hi => by obtain ⟨c, t, hc⟩ := h.row i hi; exact ⟨c, t, (hb.block _ (Nat.lt_of_lt_of_le (Array.getElem?_eq_some_iff.1 hc).1 hB)).trans hc⟩, h.ne⟩
theorem EW.less {n m : Nat} {W : World} {ad : Nat → Addr} (h : EW n W ad) (hm : m ≤ n) : EW m W ad :=
  ⟨fun i hi => h.cell i (by omega), fun i hi => h.row i (by omega), fun i j hi hj => h.ne i j (by omega) (by omega)⟩

end Go.Proofs.YtjjdehnpnfdjcabDoor
