/-
  What is stored: its cells; the contracts of toStored and of eqStored at equal arguments. No condition.
-/
import Derived.Test.YtpjmkcgofmfdaacWq
import Derived.Deep.RegionHeld3
namespace Go.Proofs.Ytpjmkcgofmfdaac
open Go.ChangeShapes Go.WideShapes Go.ChangeAt Go.RowKit Go.Deep

theorem Try.flatBL : FlatT Try.prog 41 [.u8, .i16] :=
  flat_struct (fs := [_, _]) (kss := [[.u8], [.i16]]) Try.underlying41 (by kernel_rfl) ⟨by kernel_rfl, rfl, .int Try.underlying5, by kernel_rfl, rfl, .int Try.underlying32, trivial⟩
theorem Try.flatTL : FlatT Try.prog 43 [.u8, .i16, .i16] :=
  flat_struct (fs := [_, _]) (kss := [[.u8, .i16], [.i16]]) Try.underlying43 (by kernel_rfl) ⟨by kernel_rfl, rfl, Try.flatBL, by kernel_rfl, rfl, .int Try.underlying32, trivial⟩
theorem Try.cellsTL : Try.prog.cellsOf 43 = 3 := by kernel_rfl
theorem Try.sizeTL : (Try.prog.info? 43).map (·.size) = some 3 := by kernel_rfl
theorem Try.sizeTI : (Try.prog.info? 36).map (·.size) = some 3 := by kernel_rfl
theorem Try.infoTI : (Try.prog.info? 36).map (fun i => (i.zero, i.size, i.bytes)) = some (some (.agg #[.int .u8 0, .int .i16 0, .int .i16 0]), 3, 6) := by kernel_rfl

theorem toBottle_ex (k y : Int) (w : World) : Calls Try.prog 16 #[.agg #[.int .u8 k, .int .i16 y]] w fun e w' => e = .returned (.agg #[.int .u8 k, .int .i16 y]) ∧
    w' = (((w.alloc (.cells #[.int .u8 k, .int .i16 y] 41)).alloc (.cells #[.int .u8 k, .int .i16 y] 34)).alloc (.cells #[.int .u8 k, .int .i16 y] 34)) := by
  go_enter Try.func16, Try.ntmps16
  go_wp2
  refine bodyPost_ret (v := .agg #[.int .u8 k, .int .i16 y]) (by simp [results, Try.results16, go_sem]) rfl ⟨rfl, rfl⟩
theorem toStored_any (x : Wnt) (w : World) : Calls Try.prog 14 #[.agg (wcells x).toArray] w fun e w' => e = .returned (.agg (wcells x).toArray) ∧ Below w.heap.size w w' := by
  obtain ⟨⟨k, y⟩, n⟩ := x
  show Calls Try.prog 14 #[.agg #[.int .u8 k, .int .i16 y, .int .i16 n]] w fun e w' => e = .returned (.agg #[.int .u8 k, .int .i16 y, .int .i16 n]) ∧ Below w.heap.size w w'
  go_enter Try.func14, Try.ntmps14
  go_wp2_with (go_at_call 16; refine (toBottle_ex _ _ _).mono ?_; rintro e w' ⟨rfl, rfl⟩)
  refine bodyPost_ret (v := .agg #[.int .u8 k, .int .i16 y, .int .i16 n]) (by simp [results, Try.results14, go_sem]) rfl ⟨rfl, (by repeat (first | exact Below.refl _ _ | refine Below.drew ?_ | refine Below.alloc ?_ (by simp <;> omega) _ | refine Below.setCell ?_ (by simp <;> omega) _))⟩
theorem eqBottle_sameA (k y : Int) (w : World) : Calls Try.prog 17 #[.agg #[.int .u8 k, .int .i16 y], .agg #[.int .u8 k, .int .i16 y]] w fun e w' => e = .returned (.bool true) ∧ Below w.heap.size w w' := by
  go_enter Try.func17, Try.ntmps17
  go_wp2
  go_ret
  exact ⟨rfl, (by repeat (first | exact Below.refl _ _ | refine Below.drew ?_ | refine Below.alloc ?_ (by simp <;> omega) _ | refine Below.setCell ?_ (by simp <;> omega) _))⟩
theorem eqBottle_ex (k y : Int) (w : World) : Calls Try.prog 17 #[.agg #[.int .u8 k, .int .i16 y], .agg #[.int .u8 k, .int .i16 y]] w fun e w' => e = .returned (.bool true) ∧
    w' = (w.alloc (.cells #[.int .u8 k, .int .i16 y] 34)).alloc (.cells #[.int .u8 k, .int .i16 y] 34) := by
  go_enter Try.func17, Try.ntmps17
  go_wp2
  go_ret
  exact ⟨rfl, rfl⟩
theorem eqStored_same (x : Wnt) (w : World) : Calls Try.prog 15 #[.agg (wcells x).toArray, .agg (wcells x).toArray] w fun e w' => e = .returned (.bool true) ∧ Below w.heap.size w w' := by
  obtain ⟨⟨k, y⟩, n⟩ := x
  show Calls Try.prog 15 #[.agg #[.int .u8 k, .int .i16 y, .int .i16 n], .agg #[.int .u8 k, .int .i16 y, .int .i16 n]] w fun e w' => e = .returned (.bool true) ∧ Below w.heap.size w w'
  go_enter Try.func15, Try.ntmps15
  go_wp2_with (go_at_call 17; refine (eqBottle_ex _ _ _).mono ?_; rintro e w' ⟨rfl, rfl⟩)
  all_goals (go_ret; exact ⟨rfl, (by repeat (first | exact Below.refl _ _ | refine Below.drew ?_ | refine Below.alloc ?_ (by simp <;> omega) _ | refine Below.setCell ?_ (by simp <;> omega) _))⟩)
end Go.Proofs.Ytpjmkcgofmfdaac
