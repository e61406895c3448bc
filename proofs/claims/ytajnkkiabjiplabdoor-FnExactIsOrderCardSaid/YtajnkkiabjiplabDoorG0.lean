/-
  The laws that list the error for ranges alone: from the listed variable to what the walks ask of memory. No condition of its own.
-/
import Derived.Test.YtajnkkiabjiplabDoorG
import Derived.Test.YtajnkkiabjiplabDoorI0
namespace Go.Proofs.YtajnkkiabjiplabDoor
open Go.ChangeShapes Go.WideShapes Go.ChangeAt Go.WideMaps Go.WideElems Go.RowKit

def sl0 : List (String × List UInt8 × Nat) := [("loop.example/g01353/impl.errRange", [114, 97, 110, 103, 101], gN 0)]
theorem sl0_ok : ∀ x ∈ sl0, Tryd.prog.globalNamed x.1 = some x.2.2 ∧ (Tryd.prog.globals[x.2.2]?).map (·.type) = some 44 := by
  intro x hx
  simp only [sl0, List.mem_cons, List.not_mem_nil, or_false] at hx
  subst hx
  exact ⟨by kernel_rfl, by kernel_rfl⟩
theorem i0_of {W : World} (h : laidMetH Tryd.prog (lay sl0) W) : ∃ ad, I0 W ad := by
  rw [MakeChecks.laidMetH_plain _ _ _ (by kernel_rfl)] at h
  obtain ⟨ps, hv, hnd, hrows⟩ := h
  obtain ⟨al, hlen, hn, _, hat⟩ := sents_of Tryd.underlying44 Tryd.oneName Tryd.underlying109 Tryd.underlying135 rfl rfl Tryd.underlying9 Tryd.cellsES Tryd.cellsSt sl0 ps sl0_ok hv hnd hrows
  have hl1 : al.length = 1 := hlen
  have ha : al[0]? = some (al.getD 0 ⟨0, 0, none⟩) := by simp [show 0 < al.length from by omega]
  exact ⟨fun _ => al.getD 0 ⟨0, 0, none⟩, ⟨(hat 0 _ _ rfl ha).1⟩⟩
end Go.Proofs.YtajnkkiabjiplabDoor
