/-
  Prices: its cells; the contracts of toPrices, eqPrices, and over lists. Condition: a list of at most 1048576 elements.
-/
import Derived.Test.YtjjdehnpnfdjcabDoorL
import Derived.Test.YtjjdehnpnfdjcabDoorW0
import Derived.Test.YtjjdehnpnfdjcabDoorHm
import Derived.Test.YtjjdehnpnfdjcabDoorFlb
import Derived.Deep.RegionHeld3
namespace Go.Proofs.YtjjdehnpnfdjcabDoor
open Go.ChangeShapes Go.WideShapes Go.ChangeAt Go.RowKit Go.Deep

def pcells (x : Pri) : List Value := [.int .i16 x.bo, .int .i16 x.ct]
theorem pcells_length (x : Pri) : (pcells x).length = 2 := rfl
theorem pcells_one (x : Pri) : (pcells x).toArray.all (·.oneCell') = true := all_one (by intro v hv; simp only [pcells, List.mem_cons, List.not_mem_nil, or_false] at hv; rcases hv with rfl | rfl <;> rfl)
theorem pcells_of (cs : List Value) (h : FitsL [.i16, .i16] cs) : ∃ b, wfP b ∧ cs = pcells b := by
  match cs, h.length, h with
  | [c0, c1], _, h =>
    obtain ⟨⟨n0, rfl, h0⟩, ⟨n1, rfl, h1⟩, _⟩ := h
    exact ⟨⟨n0, n1⟩, ⟨wf_i16 h0, wf_i16 h1⟩, rfl⟩
end Go.Proofs.YtjjdehnpnfdjcabDoor
