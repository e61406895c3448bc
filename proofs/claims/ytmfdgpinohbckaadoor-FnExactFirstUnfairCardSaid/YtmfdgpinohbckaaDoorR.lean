/-
  The contracts of eqBottle and eqCrate at equal arguments. No condition but the crate's length.
-/
import Derived.Test.YtmfdgpinohbckaaDoorV
import Derived.Deep.RegionHeld3
namespace Go.Proofs.YtmfdgpinohbckaaDoor
open Go.ChangeShapes Go.WideShapes Go.ChangeAt Go.RowKit

theorem eqBottle_same (k y : Int) (w : World) : Calls Tryd.prog 45 #[.agg #[.int .u8 k, .int .i16 y], .agg #[.int .u8 k, .int .i16 y]] w fun e w' => e = .returned (.bool true) ∧ Below w.heap.size w w' := by
  go_enter Tryd.func45, Tryd.ntmps45
  go_wp2
  go_ret
  exact ⟨rfl, (by repeat (first | exact Below.refl _ _ | refine Below.drew ?_ | refine Below.alloc ?_ (by simp <;> omega) _ | refine Below.setCell ?_ (by simp <;> omega) _))⟩

theorem keptEq {W0 w1 w2 : World} {B k : Nat} {x y : Int} (hB : B + 1 < W0.heap.size) (h : Below W0.heap.size W0 w1) (hb : Below w1.heap.size w1 w2)
    (a0 : w1.cell? ⟨B, k * 2, none⟩ = some (.int .u8 x)) (a1 : w1.cell? ⟨B, k * 2 + 1, none⟩ = some (.int .i16 y)) (b0 : w1.cell? ⟨B + 1, k * 2, none⟩ = some (.int .u8 x)) (b1 : w1.cell? ⟨B + 1, k * 2 + 1, none⟩ = some (.int .i16 y)) :
    w2.cell? ⟨B, k * 2, none⟩ = some (.int .u8 x) ∧ w2.cell? ⟨B, k * 2 + 1, none⟩ = some (.int .i16 y) ∧ w2.cell? ⟨B + 1, k * 2, none⟩ = some (.int .u8 x) ∧ w2.cell? ⟨B + 1, k * 2 + 1, none⟩ = some (.int .i16 y) ∧ Below W0.heap.size W0 w2 := by
  have hs := h.size
  exact ⟨(hb.cell (p := ⟨B, k * 2, none⟩) (by show B < _; omega)).trans a0, (hb.cell (p := ⟨B, k * 2 + 1, none⟩) (by show B < _; omega)).trans a1, (hb.cell (p := ⟨B + 1, k * 2, none⟩) (by show B + 1 < _; omega)).trans b0,
    (hb.cell (p := ⟨B + 1, k * 2 + 1, none⟩) (by show B + 1 < _; omega)).trans b1, h.trans (hb.mono hs)⟩

end Go.Proofs.YtmfdgpinohbckaaDoor
