/-
  The contracts of the program's SwapAll and SwapPlaces. Condition: the crate's length, that its numbers and those of the swaps fit their kinds; the sentinel errors lie as the row lists them.
-/
import Derived.Test.YtaigimdehlclfaaDoorSr
namespace Go.Proofs.YtaigimdehlclfaaDoor
open Go.ChangeShapes Go.WideShapes Go.ChangeAt Go.RowKit Go.Deep

theorem chkV_isE (ad : Nat → Addr) (ok : Bool) : isE (chkV ad ok) := by
  cases ok
  · exact .inr ⟨_, rfl⟩
  · exact .inl rfl
theorem csV_long (ad : Nat → Addr) {xs : List Swp} (h : 60 < xs.length) : csV ad xs = errV (ad 1) := by rw [csV, if_pos h]
theorem csV_no (ad : Nat → Addr) {xs : List Swp} (h : ¬ 60 < xs.length) (h2 : xs.all canS = false) : csV ad xs = errV (ad 0) := by rw [csV, if_neg h, h2]; rfl
theorem csV_ok (ad : Nat → Addr) {xs : List Swp} (h : ¬ 60 < xs.length) (h2 : xs.all canS = true) : csV ad xs = .nilIface := by rw [csV, if_neg h, h2]; rfl

end Go.Proofs.YtaigimdehlclfaaDoor
