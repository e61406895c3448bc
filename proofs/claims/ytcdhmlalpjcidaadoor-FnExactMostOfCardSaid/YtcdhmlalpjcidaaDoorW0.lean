/-
  Small laws of operations of a region that draws. No condition of its own.
-/
import Derived.Test.YtcdhmlalpjcidaaDoorFlat
import Derived.WalkKit
import Derived.Laws.Rows
import Derived.Deep.RegionLaw
namespace Go.Proofs.YtcdhmlalpjcidaaDoor
open Go.ChangeShapes Go.WideShapes Go.ChangeAt Go.RowKit Go.Deep

theorem if_wanted {P : Program} {ops : Array Oper} {o : Oper} {a : Act} {w : World} {K : Act → World → Prop} {Q : Exit → Act → World → Prop} {E : Prop} (hg : o.guard = none) (h : Oper.wp P o a w K Q) :
    if Region.wanted o (yielded ops a.tmps) = true then Oper.wp P o a w K Q else E := by
  have hw : Region.wanted o (yielded ops a.tmps) = true := by simp [Region.wanted, hg]
  rw [if_pos hw]
  exact h
theorem wp_assign0 {P : Program} {o : Oper} {a : Act} {w : World} {K : Act → World → Prop} {Q : Exit → Act → World → Prop} {x : Operand} (ho : o.op = .assign x) {v : Value} (hv : a.eval x = v) (h : K (a.put o.dst v) w) : Oper.wp P o a w K Q := by
  subst hv
  unfold Oper.wp execOp
  rw [ho]
  exact h

theorem new_cell2 (W : World) (u v : Value) (t : TypeId) : (W.alloc (.cells #[u, v] t)).cell? ⟨W.heap.size, 0, none⟩ = some u ∧ (W.alloc (.cells #[u, v] t)).cell? ⟨W.heap.size, 1, none⟩ = some v := by
  have h := heap_alloc_new W (.cells #[u, v] t)
  exact ⟨by rw [cell_of_row _ _ _ _ _ _ h]; rfl, by rw [cell_of_row _ _ _ _ _ _ h]; rfl⟩

end Go.Proofs.YtcdhmlalpjcidaaDoor
