/-
  A want: its cells; the contracts of toWant and of eqWant at equal arguments. No condition.
-/
import Derived.Test.YtcdhmlalpjcidaaDoorL
import Derived.Test.YtcdhmlalpjcidaaDoorFlat
import Derived.Deep.RegionHeld3
namespace Go.Proofs.YtcdhmlalpjcidaaDoor
open Go.ChangeShapes Go.WideShapes Go.ChangeAt Go.RowKit Go.Deep

/-- A want: a bottle and a number. -/
abbrev Wnt := Bot × Int
def wfW (x : Wnt) : Prop := wfB x.1 ∧ -32768 ≤ x.2 ∧ x.2 ≤ 32767
def wcells (x : Wnt) : List Value := [.int .u8 x.1.1, .int .i16 x.1.2, .int .i16 x.2]
theorem wcells_length (x : Wnt) : (wcells x).length = 3 := rfl
theorem wcells_one (x : Wnt) : (wcells x).toArray.all (·.oneCell') = true := all_one (by intro v hv; simp only [wcells, List.mem_cons, List.not_mem_nil, or_false] at hv; rcases hv with rfl | rfl | rfl <;> rfl)
theorem wcells_of (cs : List Value) (h : FitsL [.u8, .i16, .i16] cs) : ∃ b, wfW b ∧ cs = wcells b := by
  match cs, h.length, h with
  | [c0, c1, c2], _, h =>
    obtain ⟨⟨k, rfl, hk⟩, ⟨y, rfl, hy⟩, ⟨n, rfl, hn⟩, _⟩ := h
    have hk := wf_u8 hk
    have hy := wf_i16 hy
    have hn := wf_i16 hn
    exact ⟨((k, y), n), ⟨⟨hk.1, hk.2, hy.1, hy.2⟩, hn.1, hn.2⟩, rfl⟩
end Go.Proofs.YtcdhmlalpjcidaaDoor

namespace Go.Proofs.YtcdhmlalpjcidaaDoor
open Go.ChangeShapes Go.WideShapes Go.ChangeAt Go.RowKit Go.Deep

theorem Tryd.flatBL : FlatT Tryd.prog 24 [.u8, .i16] :=
  flat_struct (fs := [_, _]) (kss := [[.u8], [.i16]]) Tryd.underlying24 (by kernel_rfl) ⟨by kernel_rfl, rfl, .int Tryd.underlying5, by kernel_rfl, rfl, .int Tryd.underlying22, trivial⟩
theorem Tryd.flatWL : FlatT Tryd.prog 85 [.u8, .i16, .i16] :=
  flat_struct (fs := [_, _]) (kss := [[.u8, .i16], [.i16]]) Tryd.underlying85 (by kernel_rfl) ⟨by kernel_rfl, rfl, Tryd.flatBL, by kernel_rfl, rfl, .int Tryd.underlying22, trivial⟩
theorem Tryd.cellsWL : Tryd.prog.cellsOf 85 = 3 := by kernel_rfl
theorem Tryd.sizeWL : (Tryd.prog.info? 85).map (·.size) = some 3 := by kernel_rfl
theorem Tryd.sizeWI : (Tryd.prog.info? 82).map (·.size) = some 3 := by kernel_rfl
theorem Tryd.infoWI : (Tryd.prog.info? 82).map (fun i => (i.zero, i.size, i.bytes)) = some (some (.agg #[.int .u8 0, .int .i16 0, .int .i16 0]), 3, 6) := by kernel_rfl

theorem toBottle_ex (k y : Int) (w : World) : Calls Tryd.prog 37 #[.agg #[.int .u8 k, .int .i16 y]] w fun e w' => e = .returned (.agg #[.int .u8 k, .int .i16 y]) ∧
    w' = (((w.alloc (.cells #[.int .u8 k, .int .i16 y] 24)).alloc (.cells #[.int .u8 k, .int .i16 y] 26)).alloc (.cells #[.int .u8 k, .int .i16 y] 26)) := by
  go_enter Tryd.func37, Tryd.ntmps37
  go_wp2
  refine bodyPost_ret (v := .agg #[.int .u8 k, .int .i16 y]) (by simp [results, Tryd.results37, go_sem]) rfl ⟨rfl, rfl⟩
theorem toWant_any (x : Wnt) (w : World) : Calls Tryd.prog 45 #[.agg (wcells x).toArray] w fun e w' => e = .returned (.agg (wcells x).toArray) ∧ Below w.heap.size w w' := by
  obtain ⟨⟨k, y⟩, n⟩ := x
  show Calls Tryd.prog 45 #[.agg #[.int .u8 k, .int .i16 y, .int .i16 n]] w fun e w' => e = .returned (.agg #[.int .u8 k, .int .i16 y, .int .i16 n]) ∧ Below w.heap.size w w'
  go_enter Tryd.func45, Tryd.ntmps45
  go_wp2_with (go_at_call 37; refine (toBottle_ex _ _ _).mono ?_; rintro e w' ⟨rfl, rfl⟩)
  refine bodyPost_ret (v := .agg #[.int .u8 k, .int .i16 y, .int .i16 n]) (by simp [results, Tryd.results45, go_sem]) rfl ⟨rfl, (by repeat (first | exact Below.refl _ _ | refine Below.drew ?_ | refine Below.alloc ?_ (by simp <;> omega) _ | refine Below.setCell ?_ (by simp <;> omega) _))⟩
theorem eqBottle_sameA (k y : Int) (w : World) : Calls Tryd.prog 10 #[.agg #[.int .u8 k, .int .i16 y], .agg #[.int .u8 k, .int .i16 y]] w fun e w' => e = .returned (.bool true) ∧ Below w.heap.size w w' := by
  go_enter Tryd.func10, Tryd.ntmps10
  go_wp2
  go_ret
  exact ⟨rfl, (by repeat (first | exact Below.refl _ _ | refine Below.drew ?_ | refine Below.alloc ?_ (by simp <;> omega) _ | refine Below.setCell ?_ (by simp <;> omega) _))⟩
theorem eqBottle_ex (k y : Int) (w : World) : Calls Tryd.prog 10 #[.agg #[.int .u8 k, .int .i16 y], .agg #[.int .u8 k, .int .i16 y]] w fun e w' => e = .returned (.bool true) ∧
    w' = (w.alloc (.cells #[.int .u8 k, .int .i16 y] 26)).alloc (.cells #[.int .u8 k, .int .i16 y] 26) := by
  go_enter Tryd.func10, Tryd.ntmps10
  go_wp2
  go_ret
  exact ⟨rfl, rfl⟩
theorem eqWant_same (x : Wnt) (w : World) : Calls Tryd.prog 50 #[.agg (wcells x).toArray, .agg (wcells x).toArray] w fun e w' => e = .returned (.bool true) ∧ Below w.heap.size w w' := by
  obtain ⟨⟨k, y⟩, n⟩ := x
  show Calls Tryd.prog 50 #[.agg #[.int .u8 k, .int .i16 y, .int .i16 n], .agg #[.int .u8 k, .int .i16 y, .int .i16 n]] w fun e w' => e = .returned (.bool true) ∧ Below w.heap.size w w'
  go_enter Tryd.func50, Tryd.ntmps50
  go_wp2_with (go_at_call 10; refine (eqBottle_ex _ _ _).mono ?_; rintro e w' ⟨rfl, rfl⟩)
  all_goals (go_ret; exact ⟨rfl, (by repeat (first | exact Below.refl _ _ | refine Below.drew ?_ | refine Below.alloc ?_ (by simp <;> omega) _ | refine Below.setCell ?_ (by simp <;> omega) _))⟩)
end Go.Proofs.YtcdhmlalpjcidaaDoor
