/-
  Prices: its cells; the contracts of toPrices, eqPrices, and over lists. Condition: a list of at most 1048576 elements.
-/
import Derived.Test.YtjgafdfffmfhhabDoorL
import Derived.Test.YtjgafdfffmfhhabDoorW0
import Derived.Test.YtjgafdfffmfhhabDoorHm
import Derived.Test.YtjgafdfffmfhhabDoorFlb
import Derived.Deep.RegionHeld3
namespace Go.Proofs.YtjgafdfffmfhhabDoor
open Go.ChangeShapes Go.WideShapes Go.ChangeAt Go.RowKit Go.Deep

def pcells (x : Pri) : List Value := [.int .i16 x.bo, .int .i16 x.ct]
theorem pcells_length (x : Pri) : (pcells x).length = 2 := rfl
theorem pcells_one (x : Pri) : (pcells x).toArray.all (·.oneCell') = true := all_one (by intro v hv; simp only [pcells, List.mem_cons, List.not_mem_nil, or_false] at hv; rcases hv with rfl | rfl <;> rfl)
theorem pcells_of (cs : List Value) (h : FitsL [.i16, .i16] cs) : ∃ b, wfP b ∧ cs = pcells b := by
  match cs, h.length, h with
  | [c0, c1], _, h =>
    obtain ⟨⟨n0, rfl, h0⟩, ⟨n1, rfl, h1⟩, _⟩ := h
    exact ⟨⟨n0, n1⟩, ⟨wf_i16 h0, wf_i16 h1⟩, rfl⟩
theorem Tryd.flatPL : FlatT Tryd.prog 24 [.i16, .i16] :=
  flat_struct (fs := [_, _]) (kss := [[.i16], [.i16]]) Tryd.underlying24 (by kernel_rfl) ⟨by kernel_rfl, rfl, .int Tryd.underlying22, by kernel_rfl, rfl, .int Tryd.underlying22, trivial⟩
theorem Tryd.cellsPL : Tryd.prog.cellsOf 24 = 2 := by kernel_rfl
theorem Tryd.sizePL : (Tryd.prog.info? 24).map (·.size) = some 2 := by kernel_rfl
theorem Tryd.sizePI : (Tryd.prog.info? 29).map (·.size) = some 2 := by kernel_rfl
theorem Tryd.sizePIx (x : Pri) : (Tryd.prog.info? 29).map (·.size) = some (pcells x).toArray.size := by rw [Tryd.sizePI]; rfl
theorem Tryd.infoPI : (Tryd.prog.info? 29).map (fun i => (i.zero, i.size, i.bytes)) = some (some (.agg #[.int .i16 0, .int .i16 0]), 2, 4) := by kernel_rfl

theorem toPrices_any (x : Pri) (w : World) : Calls Tryd.prog 8 #[.agg (pcells x).toArray] w fun e w' => e = .returned (.agg (pcells x).toArray) ∧ Below w.heap.size w w' := by
  obtain ⟨bo, ct⟩ := x
  show Calls Tryd.prog 8 #[.agg #[.int .i16 bo, .int .i16 ct]] w fun e w' => e = .returned (.agg #[.int .i16 bo, .int .i16 ct]) ∧ Below w.heap.size w w'
  go_enter Tryd.func8, Tryd.ntmps8
  go_wp2
  refine bodyPost_ret (v := .agg #[.int .i16 bo, .int .i16 ct]) (by simp [results, Tryd.results8, go_sem]) rfl ⟨rfl, (by repeat (first | exact Below.refl _ _ | refine Below.drew ?_ | refine Below.alloc ?_ (by simp <;> omega) _ | refine Below.setCell ?_ (by simp <;> omega) _))⟩
end Go.Proofs.YtjgafdfffmfhhabDoor
