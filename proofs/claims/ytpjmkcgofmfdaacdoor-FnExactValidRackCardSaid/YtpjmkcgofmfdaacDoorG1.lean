/-
  The laws that list the error for what is invalid alone: from the listed variable to what the walks ask of memory. No condition of its own.
-/
import Derived.Test.YtpjmkcgofmfdaacDoorG
import Derived.Test.YtpjmkcgofmfdaacDoorRv
namespace Go.Proofs.YtpjmkcgofmfdaacDoor
open Go.ChangeShapes Go.WideShapes Go.ChangeAt Go.WideMaps Go.WideElems Go.RowKit

def sl1 : List (String × List UInt8 × Nat) := [("loop.example/g01353/impl.errInvalid", [105, 110, 118, 97, 108, 105, 100], gN 5)]
theorem sl1_ok : ∀ x ∈ sl1, Tryd.prog.globalNamed x.1 = some x.2.2 ∧ (Tryd.prog.globals[x.2.2]?).map (·.type) = some 39 := by
  intro x hx
  simp only [sl1, List.mem_cons, List.not_mem_nil, or_false] at hx
  subst hx
  exact ⟨by kernel_rfl, by kernel_rfl⟩
theorem i5_of {W : World} (h : laidMetH Tryd.prog (lay sl1) W) : ∃ ad, I5 W ad := by
  rw [MakeChecks.laidMetH_plain _ _ _ (by kernel_rfl)] at h
  obtain ⟨ps, hv, hnd, hrows⟩ := h
  obtain ⟨al, hlen, hn, _, hat⟩ := sents_of Tryd.underlying39 Tryd.oneName Tryd.underlying91 Tryd.underlying118 rfl rfl Tryd.underlying9 Tryd.cellsES Tryd.cellsSt sl1 ps sl1_ok hv hnd hrows
  have hl1 : al.length = 1 := hlen
  have ha : al[0]? = some (al.getD 0 ⟨0, 0, none⟩) := by simp [show 0 < al.length from by omega]
  exact ⟨fun _ => al.getD 0 ⟨0, 0, none⟩, ⟨(hat 0 _ _ rfl ha).1⟩⟩
end Go.Proofs.YtpjmkcgofmfdaacDoor
