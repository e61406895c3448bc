/-
  What is stored: its cells; the contracts of toStored and of eqStored at equal arguments. No condition.
-/
import Derived.Test.YtlfamfdgphhbcaaDoorWq
import Derived.Deep.RegionHeld3
namespace Go.Proofs.YtlfamfdgphhbcaaDoor
open Go.ChangeShapes Go.WideShapes Go.ChangeAt Go.RowKit Go.Deep

theorem Tryd.flatBL : FlatT Tryd.prog 32 [.u8, .i16] :=
  flat_struct (fs := [_, _]) (kss := [[.u8], [.i16]]) Tryd.underlying32 (by kernel_rfl) ⟨by kernel_rfl, rfl, .int Tryd.underlying5, by kernel_rfl, rfl, .int Tryd.underlying22, trivial⟩
theorem Tryd.flatTL : FlatT Tryd.prog 133 [.u8, .i16, .i16] :=
  flat_struct (fs := [_, _]) (kss := [[.u8, .i16], [.i16]]) Tryd.underlying133 (by kernel_rfl) ⟨by kernel_rfl, rfl, Tryd.flatBL, by kernel_rfl, rfl, .int Tryd.underlying22, trivial⟩
theorem Tryd.cellsTL : Tryd.prog.cellsOf 133 = 3 := by kernel_rfl
theorem Tryd.sizeTL : (Tryd.prog.info? 133).map (·.size) = some 3 := by kernel_rfl
theorem Tryd.sizeTI : (Tryd.prog.info? 90).map (·.size) = some 3 := by kernel_rfl
theorem Tryd.infoTI : (Tryd.prog.info? 90).map (fun i => (i.zero, i.size, i.bytes)) = some (some (.agg #[.int .u8 0, .int .i16 0, .int .i16 0]), 3, 6) := by kernel_rfl

theorem toBottle_ex (k y : Int) (w : World) : Calls Tryd.prog 36 #[.agg #[.int .u8 k, .int .i16 y]] w fun e w' => e = .returned (.agg #[.int .u8 k, .int .i16 y]) ∧
    w' = (((w.alloc (.cells #[.int .u8 k, .int .i16 y] 32)).alloc (.cells #[.int .u8 k, .int .i16 y] 34)).alloc (.cells #[.int .u8 k, .int .i16 y] 34)) := by
  go_enter Tryd.func36, Tryd.ntmps36
  go_wp2
  refine bodyPost_ret (v := .agg #[.int .u8 k, .int .i16 y]) (by simp [results, Tryd.results36, go_sem]) rfl ⟨rfl, rfl⟩
theorem toStored_any (x : Wnt) (w : World) : Calls Tryd.prog 81 #[.agg (wcells x).toArray] w fun e w' => e = .returned (.agg (wcells x).toArray) ∧ Below w.heap.size w w' := by
  obtain ⟨⟨k, y⟩, n⟩ := x
  show Calls Tryd.prog 81 #[.agg #[.int .u8 k, .int .i16 y, .int .i16 n]] w fun e w' => e = .returned (.agg #[.int .u8 k, .int .i16 y, .int .i16 n]) ∧ Below w.heap.size w w'
  go_enter Tryd.func81, Tryd.ntmps81
  go_wp2_with (go_at_call 36; refine (toBottle_ex _ _ _).mono ?_; rintro e w' ⟨rfl, rfl⟩)
  refine bodyPost_ret (v := .agg #[.int .u8 k, .int .i16 y, .int .i16 n]) (by simp [results, Tryd.results81, go_sem]) rfl ⟨rfl, (by repeat (first | exact Below.refl _ _ | refine Below.drew ?_ | refine Below.alloc ?_ (by simp <;> omega) _ | refine Below.setCell ?_ (by simp <;> omega) _))⟩
theorem eqBottle_sameA (k y : Int) (w : World) : Calls Tryd.prog 41 #[.agg #[.int .u8 k, .int .i16 y], .agg #[.int .u8 k, .int .i16 y]] w fun e w' => e = .returned (.bool true) ∧ Below w.heap.size w w' := by
  go_enter Tryd.func41, Tryd.ntmps41
  go_wp2
  go_ret
  exact ⟨rfl, (by repeat (first | exact Below.refl _ _ | refine Below.drew ?_ | refine Below.alloc ?_ (by simp <;> omega) _ | refine Below.setCell ?_ (by simp <;> omega) _))⟩
theorem eqBottle_ex (k y : Int) (w : World) : Calls Tryd.prog 41 #[.agg #[.int .u8 k, .int .i16 y], .agg #[.int .u8 k, .int .i16 y]] w fun e w' => e = .returned (.bool true) ∧
    w' = (w.alloc (.cells #[.int .u8 k, .int .i16 y] 34)).alloc (.cells #[.int .u8 k, .int .i16 y] 34) := by
  go_enter Tryd.func41, Tryd.ntmps41
  go_wp2
  go_ret
  exact ⟨rfl, rfl⟩
theorem eqStored_same (x : Wnt) (w : World) : Calls Tryd.prog 87 #[.agg (wcells x).toArray, .agg (wcells x).toArray] w fun e w' => e = .returned (.bool true) ∧ Below w.heap.size w w' := by
  obtain ⟨⟨k, y⟩, n⟩ := x
  show Calls Tryd.prog 87 #[.agg #[.int .u8 k, .int .i16 y, .int .i16 n], .agg #[.int .u8 k, .int .i16 y, .int .i16 n]] w fun e w' => e = .returned (.bool true) ∧ Below w.heap.size w w'
  go_enter Tryd.func87, Tryd.ntmps87
  go_wp2_with (go_at_call 41; refine (eqBottle_ex _ _ _).mono ?_; rintro e w' ⟨rfl, rfl⟩)
  all_goals (go_ret; exact ⟨rfl, (by repeat (first | exact Below.refl _ _ | refine Below.drew ?_ | refine Below.alloc ?_ (by simp <;> omega) _ | refine Below.setCell ?_ (by simp <;> omega) _))⟩)
end Go.Proofs.YtlfamfdgphhbcaaDoor
