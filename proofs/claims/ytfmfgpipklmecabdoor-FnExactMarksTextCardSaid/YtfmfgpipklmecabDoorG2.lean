/-
  The laws that list the errors for what is invalid and for ranges alone: from the listed variables to what the walks ask of memory. No condition of its own.
-/
import Derived.Test.YtfmfgpipklmecabDoorG
import Derived.Test.YtfmfgpipklmecabDoorI05
namespace Go.Proofs.YtfmfgpipklmecabDoor
open Go.ChangeShapes Go.WideShapes Go.ChangeAt Go.WideMaps Go.WideElems Go.RowKit

def sl2 : List (String × List UInt8 × Nat) := [("loop.example/g01353/impl.errInvalid", [105, 110, 118, 97, 108, 105, 100], gN 5), ("loop.example/g01353/impl.errRange", [114, 97, 110, 103, 101], gN 0)]
theorem sl2_ok : ∀ x ∈ sl2, Tryd.prog.globalNamed x.1 = some x.2.2 ∧ (Tryd.prog.globals[x.2.2]?).map (·.type) = some 51 := by
  intro x hx
  simp only [sl2, List.mem_cons, List.not_mem_nil, or_false] at hx
  rcases hx with rfl | rfl <;> exact ⟨by kernel_rfl, by kernel_rfl⟩
theorem i05_of {W : World} (h : laidMetH Tryd.prog (lay sl2) W) : ∃ ad, I05 W ad := by
  rw [MakeChecks.laidMetH_plain _ _ _ (by kernel_rfl)] at h
  obtain ⟨ps, hv, hnd, hrows⟩ := h
  obtain ⟨al, hlen, hn, _, hat⟩ := sents_of Tryd.underlying51 Tryd.oneName Tryd.underlying170 Tryd.underlying193 rfl rfl Tryd.underlying9 Tryd.cellsES Tryd.cellsSt sl2 ps sl2_ok hv hnd hrows
  have hl2 : al.length = 2 := hlen
  have h0 : al[0]? = some (al.getD 0 ⟨0, 0, none⟩) := by simp [show 0 < al.length from by omega]
  have h1 : al[1]? = some (al.getD 1 ⟨0, 0, none⟩) := by simp [show 1 < al.length from by omega]
  exact ⟨fun i => if i = 5 then al.getD 0 ⟨0, 0, none⟩ else al.getD 1 ⟨0, 0, none⟩, ⟨(hat 1 _ _ rfl h1).1, (hat 0 _ _ rfl h0).1⟩⟩
end Go.Proofs.YtfmfgpipklmecabDoor
