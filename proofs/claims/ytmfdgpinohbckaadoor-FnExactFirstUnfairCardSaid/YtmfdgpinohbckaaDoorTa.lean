/-
  What is stored: its cells; the contracts of toStored and of eqStored at equal arguments. No condition.
-/
import Derived.Test.YtmfdgpinohbckaaDoorWq
import Derived.Deep.RegionHeld3
namespace Go.Proofs.YtmfdgpinohbckaaDoor
open Go.ChangeShapes Go.WideShapes Go.ChangeAt Go.RowKit Go.Deep

theorem Tryd.flatBL : FlatT Tryd.prog 38 [.u8, .i16] :=
  flat_struct (fs := [_, _]) (kss := [[.u8], [.i16]]) Tryd.underlying38 (by kernel_rfl) ⟨by kernel_rfl, rfl, .int Tryd.underlying5, by kernel_rfl, rfl, .int Tryd.underlying26, trivial⟩
theorem Tryd.flatTL : FlatT Tryd.prog 90 [.u8, .i16, .i16] :=
  flat_struct (fs := [_, _]) (kss := [[.u8, .i16], [.i16]]) Tryd.underlying90 (by kernel_rfl) ⟨by kernel_rfl, rfl, Tryd.flatBL, by kernel_rfl, rfl, .int Tryd.underlying26, trivial⟩
theorem Tryd.cellsTL : Tryd.prog.cellsOf 90 = 3 := by kernel_rfl
theorem Tryd.sizeTL : (Tryd.prog.info? 90).map (·.size) = some 3 := by kernel_rfl
theorem Tryd.sizeTI : (Tryd.prog.info? 30).map (·.size) = some 3 := by kernel_rfl
theorem Tryd.infoTI : (Tryd.prog.info? 30).map (fun i => (i.zero, i.size, i.bytes)) = some (some (.agg #[.int .u8 0, .int .i16 0, .int .i16 0]), 3, 6) := by kernel_rfl

theorem toBottle_ex (k y : Int) (w : World) : Calls Tryd.prog 17 #[.agg #[.int .u8 k, .int .i16 y]] w fun e w' => e = .returned (.agg #[.int .u8 k, .int .i16 y]) ∧
    w' = (((w.alloc (.cells #[.int .u8 k, .int .i16 y] 38)).alloc (.cells #[.int .u8 k, .int .i16 y] 28)).alloc (.cells #[.int .u8 k, .int .i16 y] 28)) := by
  go_enter Tryd.func17, Tryd.ntmps17
  go_wp2
  refine bodyPost_ret (v := .agg #[.int .u8 k, .int .i16 y]) (by simp [results, Tryd.results17, go_sem]) rfl ⟨rfl, rfl⟩
theorem toStored_any (x : Wnt) (w : World) : Calls Tryd.prog 56 #[.agg (wcells x).toArray] w fun e w' => e = .returned (.agg (wcells x).toArray) ∧ Below w.heap.size w w' := by
  obtain ⟨⟨k, y⟩, n⟩ := x
  show Calls Tryd.prog 56 #[.agg #[.int .u8 k, .int .i16 y, .int .i16 n]] w fun e w' => e = .returned (.agg #[.int .u8 k, .int .i16 y, .int .i16 n]) ∧ Below w.heap.size w w'
  go_enter Tryd.func56, Tryd.ntmps56
  go_wp2_with (go_at_call 17; refine (toBottle_ex _ _ _).mono ?_; rintro e w' ⟨rfl, rfl⟩)
  refine bodyPost_ret (v := .agg #[.int .u8 k, .int .i16 y, .int .i16 n]) (by simp [results, Tryd.results56, go_sem]) rfl ⟨rfl, (by repeat (first | exact Below.refl _ _ | refine Below.drew ?_ | refine Below.alloc ?_ (by simp <;> omega) _ | refine Below.setCell ?_ (by simp <;> omega) _))⟩
theorem eqBottle_sameA (k y : Int) (w : World) : Calls Tryd.prog 45 #[.agg #[.int .u8 k, .int .i16 y], .agg #[.int .u8 k, .int .i16 y]] w fun e w' => e = .returned (.bool true) ∧ Below w.heap.size w w' := by
  go_enter Tryd.func45, Tryd.ntmps45
  go_wp2
  go_ret
  exact ⟨rfl, (by repeat (first | exact Below.refl _ _ | refine Below.drew ?_ | refine Below.alloc ?_ (by simp <;> omega) _ | refine Below.setCell ?_ (by simp <;> omega) _))⟩
theorem eqBottle_ex (k y : Int) (w : World) : Calls Tryd.prog 45 #[.agg #[.int .u8 k, .int .i16 y], .agg #[.int .u8 k, .int .i16 y]] w fun e w' => e = .returned (.bool true) ∧
    w' = (w.alloc (.cells #[.int .u8 k, .int .i16 y] 28)).alloc (.cells #[.int .u8 k, .int .i16 y] 28) := by
  go_enter Tryd.func45, Tryd.ntmps45
  go_wp2
  go_ret
  exact ⟨rfl, rfl⟩
theorem eqStored_same (x : Wnt) (w : World) : Calls Tryd.prog 13 #[.agg (wcells x).toArray, .agg (wcells x).toArray] w fun e w' => e = .returned (.bool true) ∧ Below w.heap.size w w' := by
  obtain ⟨⟨k, y⟩, n⟩ := x
  show Calls Tryd.prog 13 #[.agg #[.int .u8 k, .int .i16 y, .int .i16 n], .agg #[.int .u8 k, .int .i16 y, .int .i16 n]] w fun e w' => e = .returned (.bool true) ∧ Below w.heap.size w w'
  go_enter Tryd.func13, Tryd.ntmps13
  go_wp2_with (go_at_call 45; refine (eqBottle_ex _ _ _).mono ?_; rintro e w' ⟨rfl, rfl⟩)
  all_goals (go_ret; exact ⟨rfl, (by repeat (first | exact Below.refl _ _ | refine Below.drew ?_ | refine Below.alloc ?_ (by simp <;> omega) _ | refine Below.setCell ?_ (by simp <;> omega) _))⟩)
end Go.Proofs.YtmfdgpinohbckaaDoor
