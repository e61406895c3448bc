/-
  A swap: its cells; the contracts of toSwap and of eqSwap at equal arguments. No condition.
-/
import Derived.Test.YtjjdehnpnfdjcaaDoorL
import Derived.Test.YtjjdehnpnfdjcaaDoorFlat
import Derived.Deep.RegionHeld3
namespace Go.Proofs.YtjjdehnpnfdjcaaDoor
open Go.ChangeShapes Go.WideShapes Go.ChangeAt Go.RowKit Go.Deep

/-- A swap: the two places. -/
abbrev Swp := Int × Int
def wfS (x : Swp) : Prop := (-128 ≤ x.1 ∧ x.1 ≤ 127) ∧ -128 ≤ x.2 ∧ x.2 ≤ 127
def scells (x : Swp) : List Value := [.int .i8 x.1, .int .i8 x.2]
theorem scells_length (x : Swp) : (scells x).length = 2 := rfl
theorem scells_one (x : Swp) : (scells x).toArray.all (·.oneCell') = true := all_one (by intro v hv; simp only [scells, List.mem_cons, List.not_mem_nil, or_false] at hv; rcases hv with rfl | rfl <;> rfl)
theorem scells_of (cs : List Value) (h : FitsL [.i8, .i8] cs) : ∃ b, wfS b ∧ cs = scells b := by
  match cs, h.length, h with
  | [c0, c1], _, h =>
    obtain ⟨⟨k, rfl, hk⟩, ⟨y, rfl, hy⟩, _⟩ := h
    exact ⟨(k, y), ⟨bounds_i8 hk, bounds_i8 hy⟩, rfl⟩
theorem Tryd.flatSL : FlatT Tryd.prog 49 [.i8, .i8] :=
  flat_struct (fs := [_, _]) (kss := [[.i8], [.i8]]) Tryd.underlying49 (by kernel_rfl) ⟨by kernel_rfl, rfl, .int Tryd.underlying23, by kernel_rfl, rfl, .int Tryd.underlying23, trivial⟩
theorem Tryd.cellsSL : Tryd.prog.cellsOf 49 = 2 := by kernel_rfl
theorem Tryd.sizeSL : (Tryd.prog.info? 49).map (·.size) = some 2 := by kernel_rfl
theorem Tryd.sizeSI : (Tryd.prog.info? 47).map (·.size) = some 2 := by kernel_rfl
theorem Tryd.infoSI : (Tryd.prog.info? 47).map (fun i => (i.zero, i.size, i.bytes)) = some (some (.agg #[.int .i8 0, .int .i8 0]), 2, 2) := by kernel_rfl

theorem toSwap_any (x : Swp) (w : World) : Calls Tryd.prog 20 #[.agg (scells x).toArray] w fun e w' => e = .returned (.agg (scells x).toArray) ∧ Below w.heap.size w w' := by
  obtain ⟨k, y⟩ := x
  show Calls Tryd.prog 20 #[.agg #[.int .i8 k, .int .i8 y]] w fun e w' => e = .returned (.agg #[.int .i8 k, .int .i8 y]) ∧ Below w.heap.size w w'
  go_enter Tryd.func20, Tryd.ntmps20
  go_wp2
  refine bodyPost_ret (v := .agg #[.int .i8 k, .int .i8 y]) (by simp [results, Tryd.results20, go_sem]) rfl ⟨rfl, (by repeat (first | exact Below.refl _ _ | refine Below.drew ?_ | refine Below.alloc ?_ (by simp <;> omega) _ | refine Below.setCell ?_ (by simp <;> omega) _))⟩
theorem eqSwap_same (x : Swp) (w : World) : Calls Tryd.prog 22 #[.agg (scells x).toArray, .agg (scells x).toArray] w fun e w' => e = .returned (.bool true) ∧ Below w.heap.size w w' := by
  obtain ⟨k, y⟩ := x
  show Calls Tryd.prog 22 #[.agg #[.int .i8 k, .int .i8 y], .agg #[.int .i8 k, .int .i8 y]] w fun e w' => e = .returned (.bool true) ∧ Below w.heap.size w w'
  go_enter Tryd.func22, Tryd.ntmps22
  go_wp2
  all_goals (go_ret; exact ⟨rfl, (by repeat (first | exact Below.refl _ _ | refine Below.drew ?_ | refine Below.alloc ?_ (by simp <;> omega) _ | refine Below.setCell ?_ (by simp <;> omega) _))⟩)
end Go.Proofs.YtjjdehnpnfdjcaaDoor
