/-
  Checks and their first error, whatever they answer. No condition.
-/
import Derived.Test.YtcdhmlalpjcidaaDoorE
import Derived.Test.YtcdhmlalpjcidaaDoorW0
import Derived.Great.BuildSlice
import Derived.Deep.RegionHeld3
namespace Go.Proofs.YtcdhmlalpjcidaaDoor
open Go.ChangeShapes Go.WideShapes Go.ChangeAt Go.RowKit Go.Deep

/-- The first of the checks. -/
theorem first2_hit (a : Addr) (B c : Nat) (w : World) (h0 : w.cell? ⟨B, 0, none⟩ = some (.iface 173 (.pointer (some a)))) :
    Calls Tryd.prog 76 #[.slice (some ⟨B, 0, none⟩) 2 c] w fun e w' => e = .returned (.iface 173 (.pointer (some a))) ∧ w = w' := by
  go_enter Tryd.func76, Tryd.ntmps76
  go_wp2
  refine wp_loop_rounds 3 ?_
  rw [rounds_succ]
  go_wp2
  go_ret
  exact ⟨rfl, rfl⟩
theorem first2_second (a : Addr) (B c : Nat) (w : World) (h0 : w.cell? ⟨B, 0, none⟩ = some .nilIface) (h1 : w.cell? ⟨B, 1, none⟩ = some (.iface 173 (.pointer (some a)))) :
    Calls Tryd.prog 76 #[.slice (some ⟨B, 0, none⟩) 2 c] w fun e w' => e = .returned (.iface 173 (.pointer (some a))) ∧ w = w' := by
  go_enter Tryd.func76, Tryd.ntmps76
  go_wp2
  refine wp_loop_rounds 3 ?_
  rw [rounds_succ]
  go_wp2
  rw [rounds_succ]
  go_wp2
  go_ret
  exact ⟨rfl, rfl⟩
theorem first2_none (B c : Nat) (w : World) (h0 : w.cell? ⟨B, 0, none⟩ = some .nilIface) (h1 : w.cell? ⟨B, 1, none⟩ = some .nilIface) :
    Calls Tryd.prog 76 #[.slice (some ⟨B, 0, none⟩) 2 c] w fun e w' => e = .returned .nilIface ∧ w = w' := by
  go_enter Tryd.func76, Tryd.ntmps76
  go_wp2
  refine wp_loop_rounds 3 ?_
  rw [rounds_succ]
  go_wp2
  rw [rounds_succ]
  go_wp2
  rw [rounds_succ]
  go_wp2
  go_ret
  exact ⟨rfl, rfl⟩
/-- What a check answers that fails with the k-th error. -/
def erV (ad : Nat → Addr) (k : Nat) (ok : Bool) : Value := if ok = true then .nilIface else errV (ad k)
def isE (v : Value) : Prop := v = .nilIface ∨ ∃ a, v = errV a
/-- The first of two errors. -/
def firstV (v0 v1 : Value) : Value := match v0 with | .nilIface => v1 | v => v
theorem erV_isE (ad : Nat → Addr) (k : Nat) (ok : Bool) : isE (erV ad k ok) := by
  cases ok
  · exact .inr ⟨_, rfl⟩
  · exact .inl rfl
theorem firstV_nil (v : Value) : firstV .nilIface v = v := rfl
theorem firstV_err (a : Addr) (v : Value) : firstV (errV a) v = errV a := rfl
theorem firstV_isE {v0 v1 : Value} (h0 : isE v0) (h1 : isE v1) : isE (firstV v0 v1) := by
  rcases h0 with rfl | ⟨a, rfl⟩
  · exact h1
  · exact .inr ⟨a, rfl⟩
theorem first2_any {v0 v1 : Value} (hv0 : isE v0) (hv1 : isE v1) (B c : Nat) (w : World) (h0 : w.cell? ⟨B, 0, none⟩ = some v0) (h1 : w.cell? ⟨B, 1, none⟩ = some v1) :
    Calls Tryd.prog 76 #[.slice (some ⟨B, 0, none⟩) 2 c] w fun e w' => e = .returned (firstV v0 v1) ∧ w = w' := by
  rcases hv0 with rfl | ⟨a, rfl⟩
  · rcases hv1 with rfl | ⟨a, rfl⟩
    · exact first2_none B c w h0 h1
    · exact first2_second a B c w h0 h1
  · exact first2_hit a B c w h0
theorem isE_size {v : Value} (h : isE v) : v.cells.size = 1 := by
  rcases h with rfl | ⟨a, rfl⟩ <;> rfl
theorem Tryd.infoErr : (Tryd.prog.info? 74).map (fun i => (i.zero, i.size)) = some (some .nilIface, 1) := by kernel_rfl
theorem isE_cells {v : Value} (h : isE v) : v.cells.toList = [v] := by
  rcases h with rfl | ⟨a, rfl⟩ <;> rfl
theorem fill_errs {v0 v1 : Value} (h0 : isE v0) (h1 : isE v1) {z : Value} {ie : TypeInfo} (hs : ie.size = 1) :
    Instr.fill (fun i => some (i * ie.size, ie.size)) ((Array.range (2 * ie.size)).map (z.cells[· % z.cells.size]!)) [(0, v0), (1, v1)] = some #[v0, v1] := by
  have := Great.fill_whole (s := 1) (by omega) [v0, v1] ((Array.range (2 * ie.size)).map (z.cells[· % z.cells.size]!)) (by intro v hv; simp only [List.mem_cons, List.not_mem_nil, or_false] at hv; rcases hv with rfl | rfl <;> exact isE_size (by assumption)) (by simp [hs])
  rw [hs] at this ⊢
  simpa [isE_cells h0, isE_cells h1] using this
theorem wp_twoErrs {o : Oper} {a : Act} {w : World} {K : Act → World → Prop} {Q : Exit → Act → World → Prop} (x0 x1 : Operand) (ho : o.op = .buildSlice 145 2 #[(0, x0), (1, x1)]) {v0 v1 : Value} (h0 : isE v0) (h1 : isE v1)
    (hx0 : a.eval x0 = v0) (hx1 : a.eval x1 = v1) (h : K (a.put o.dst (.slice (some ⟨w.heap.size, 0, none⟩) 2 2)) (w.alloc (.cells #[v0, v1] 74))) : Oper.wp Tryd.prog o a w K Q := by
  obtain ⟨ie, hie, hzz⟩ := Option.map_eq_some_iff.1 Tryd.infoErr
  simp only [Prod.mk.injEq] at hzz
  refine wp_buildSlice 145 74 2 _ ho _ ie .nilIface Tryd.underlying145 hie hzz.1 (by rw [hzz.2]; omega) (by rw [hzz.2]; omega) ?_ h
  have := fill_errs h0 h1 (z := .nilIface) hzz.2
  simpa [hx0, hx1] using this
theorem wpList_twoErrs {ops : Array Oper} {rest : List Oper} {o : Oper} {a : Act} {w : World} {Q : Exit → Act → World → Prop} (hg : o.guard = none) (x0 x1 : Operand) (ho : o.op = .buildSlice 145 2 #[(0, x0), (1, x1)]) {v0 v1 : Value} (h0 : isE v0) (h1 : isE v1)
    (hx0 : a.eval x0 = v0) (hx1 : a.eval x1 = v1) (h : wpList Tryd.prog ops Q rest (a.put o.dst (.slice (some ⟨w.heap.size, 0, none⟩) 2 2)) (w.alloc (.cells #[v0, v1] 74))) : wpList Tryd.prog ops Q (o :: rest) a w :=
  wpList_plain hg fun _ hK => wp_twoErrs x0 x1 ho h0 h1 hx0 hx1 (hK _ _ h)
end Go.Proofs.YtcdhmlalpjcidaaDoor
