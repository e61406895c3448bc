/-
  Prices: its cells; the contracts of toPrices, eqPrices, and over lists. Condition: a list of at most 1048576 elements.
-/
import Derived.Test.YtjgafdfffmfhhaaL
import Derived.Test.YtjgafdfffmfhhaaW0
import Derived.Test.YtjgafdfffmfhhaaHm
import Derived.Test.YtjgafdfffmfhhaaFlb
import Derived.Deep.RegionHeld3
namespace Go.Proofs.Ytjgafdfffmfhhaa
open Go.ChangeShapes Go.WideShapes Go.ChangeAt Go.RowKit Go.Deep

def pcells (x : Pri) : List Value := [.int .i16 x.bo, .int .i16 x.ct]
theorem pcells_length (x : Pri) : (pcells x).length = 2 := rfl
theorem pcells_one (x : Pri) : (pcells x).toArray.all (·.oneCell') = true := all_one (by intro v hv; simp only [pcells, List.mem_cons, List.not_mem_nil, or_false] at hv; rcases hv with rfl | rfl <;> rfl)
theorem pcells_of (cs : List Value) (h : FitsL [.i16, .i16] cs) : ∃ b, wfP b ∧ cs = pcells b := by
  match cs, h.length, h with
  | [c0, c1], _, h =>
    obtain ⟨⟨n0, rfl, h0⟩, ⟨n1, rfl, h1⟩, _⟩ := h
    exact ⟨⟨n0, n1⟩, ⟨wf_i16 h0, wf_i16 h1⟩, rfl⟩
theorem Try.flatPL : FlatT Try.prog 24 [.i16, .i16] :=
  flat_struct (fs := [_, _]) (kss := [[.i16], [.i16]]) Try.underlying24 (by kernel_rfl) ⟨by kernel_rfl, rfl, .int Try.underlying22, by kernel_rfl, rfl, .int Try.underlying22, trivial⟩
theorem Try.cellsPL : Try.prog.cellsOf 24 = 2 := by kernel_rfl
theorem Try.sizePL : (Try.prog.info? 24).map (·.size) = some 2 := by kernel_rfl
theorem Try.sizePI : (Try.prog.info? 26).map (·.size) = some 2 := by kernel_rfl
theorem Try.sizePIx (x : Pri) : (Try.prog.info? 26).map (·.size) = some (pcells x).toArray.size := by rw [Try.sizePI]; rfl
theorem Try.infoPI : (Try.prog.info? 26).map (fun i => (i.zero, i.size, i.bytes)) = some (some (.agg #[.int .i16 0, .int .i16 0]), 2, 4) := by kernel_rfl

theorem toPrices_any (x : Pri) (w : World) : Calls Try.prog 7 #[.agg (pcells x).toArray] w fun e w' => e = .returned (.agg (pcells x).toArray) ∧ Below w.heap.size w w' := by
  obtain ⟨bo, ct⟩ := x
  show Calls Try.prog 7 #[.agg #[.int .i16 bo, .int .i16 ct]] w fun e w' => e = .returned (.agg #[.int .i16 bo, .int .i16 ct]) ∧ Below w.heap.size w w'
  go_enter Try.func7, Try.ntmps7
  go_wp2
  refine bodyPost_ret (v := .agg #[.int .i16 bo, .int .i16 ct]) (by simp [results, Try.results7, go_sem]) rfl ⟨rfl, (by repeat (first | exact Below.refl _ _ | refine Below.drew ?_ | refine Below.alloc ?_ (by simp <;> omega) _ | refine Below.setCell ?_ (by simp <;> omega) _))⟩
end Go.Proofs.Ytjgafdfffmfhhaa
