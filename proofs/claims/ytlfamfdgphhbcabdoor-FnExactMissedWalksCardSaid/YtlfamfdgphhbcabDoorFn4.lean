/-
  Four errors in a slice: made, and the first of them. No condition of its own.
-/
import Derived.Test.YtlfamfdgphhbcabDoorEo
namespace Go.Proofs.YtlfamfdgphhbcabDoor
open Go.ChangeShapes Go.WideShapes Go.ChangeAt Go.RowKit Go.Deep

theorem fill_errs4 {v0 v1 v2 v3 : Value} (h0 : isE v0) (h1 : isE v1) (h2 : isE v2) (h3 : isE v3) {z : Value} {ie : TypeInfo} (hs : ie.size = 1) :
    Instr.fill (fun i => some (i * ie.size, ie.size)) ((Array.range (4 * ie.size)).map (z.cells[· % z.cells.size]!)) [(0, v0), (1, v1), (2, v2), (3, v3)] = some #[v0, v1, v2, v3] := by
  have := Great.fill_whole (s := 1) (by omega) [v0, v1, v2, v3] ((Array.range (4 * ie.size)).map (z.cells[· % z.cells.size]!)) (by intro v hv; simp only [List.mem_cons, List.not_mem_nil, or_false] at hv; rcases hv with rfl | rfl | rfl | rfl <;> exact isE_size (by assumption)) (by simp [hs])
  rw [hs] at this ⊢
  simpa [isE_cells h0, isE_cells h1, isE_cells h2, isE_cells h3] using this
theorem wp_fourErrs {o : Oper} {a : Act} {w : World} {K : Act → World → Prop} {Q : Exit → Act → World → Prop} (x0 x1 x2 x3 : Operand) (ho : o.op = .buildSlice 125 4 #[(0, x0), (1, x1), (2, x2), (3, x3)]) {v0 v1 v2 v3 : Value} (h0 : isE v0) (h1 : isE v1) (h2 : isE v2) (h3 : isE v3)
    (hx0 : a.eval x0 = v0) (hx1 : a.eval x1 = v1) (hx2 : a.eval x2 = v2) (hx3 : a.eval x3 = v3) (h : K (a.put o.dst (.slice (some ⟨w.heap.size, 0, none⟩) 4 4)) (w.alloc (.cells #[v0, v1, v2, v3] 71))) : Oper.wp Tryd.prog o a w K Q := by
  obtain ⟨ie, hie, hzz⟩ := Option.map_eq_some_iff.1 Tryd.infoErr
  simp only [Prod.mk.injEq] at hzz
  refine wp_buildSlice 125 71 4 _ ho _ ie .nilIface Tryd.underlying125 hie hzz.1 (by rw [hzz.2]; omega) (by rw [hzz.2]; omega) ?_ h
  have := fill_errs4 h0 h1 h2 h3 (z := .nilIface) hzz.2
  simpa [hx0, hx1, hx2, hx3] using this
theorem wpList_fourErrs {ops : Array Oper} {rest : List Oper} {o : Oper} {a : Act} {w : World} {Q : Exit → Act → World → Prop} (hg : o.guard = none) (x0 x1 x2 x3 : Operand) (ho : o.op = .buildSlice 125 4 #[(0, x0), (1, x1), (2, x2), (3, x3)]) {v0 v1 v2 v3 : Value} (h0 : isE v0) (h1 : isE v1) (h2 : isE v2) (h3 : isE v3)
    (hx0 : a.eval x0 = v0) (hx1 : a.eval x1 = v1) (hx2 : a.eval x2 = v2) (hx3 : a.eval x3 = v3) (h : wpList Tryd.prog ops Q rest (a.put o.dst (.slice (some ⟨w.heap.size, 0, none⟩) 4 4)) (w.alloc (.cells #[v0, v1, v2, v3] 71))) : wpList Tryd.prog ops Q (o :: rest) a w :=
  wpList_plain hg fun _ hK => wp_fourErrs x0 x1 x2 x3 ho h0 h1 h2 h3 hx0 hx1 hx2 hx3 (hK _ _ h)
theorem new_cells4 (W : World) (u v x y : Value) (t : TypeId) : (W.alloc (.cells #[u, v, x, y] t)).cell? ⟨W.heap.size, 0, none⟩ = some u ∧ (W.alloc (.cells #[u, v, x, y] t)).cell? ⟨W.heap.size, 1, none⟩ = some v ∧ (W.alloc (.cells #[u, v, x, y] t)).cell? ⟨W.heap.size, 2, none⟩ = some x ∧ (W.alloc (.cells #[u, v, x, y] t)).cell? ⟨W.heap.size, 3, none⟩ = some y :=
  ⟨(Blk.new W t #[u, v, x, y]).cell 0, (Blk.new W t #[u, v, x, y]).cell 1, (Blk.new W t #[u, v, x, y]).cell 2, (Blk.new W t #[u, v, x, y]).cell 3⟩
theorem firstErr4_O (ad : Nat → Addr) (o0 o1 o2 o3 : Option Nat) (B c : Nat) (w : World) (h0 : w.cell? ⟨B, 0, none⟩ = some (erO ad o0)) (h1 : w.cell? ⟨B, 1, none⟩ = some (erO ad o1)) (h2 : w.cell? ⟨B, 2, none⟩ = some (erO ad o2)) (h3 : w.cell? ⟨B, 3, none⟩ = some (erO ad o3)) :
    Calls Tryd.prog 48 #[.slice (some ⟨B, 0, none⟩) 4 c] w fun e w' => e = .returned (erO ad (firstO [o0, o1, o2, o3])) ∧ w = w' :=
  firstErr_O ad [o0, o1, o2, o3] B c w (by simp) (fun j o ho => by
    match j with
    | 0 => obtain rfl := Option.some.inj ho; exact h0
    | 1 => obtain rfl := Option.some.inj ho; exact h1
    | 2 => obtain rfl := Option.some.inj ho; exact h2
    | 3 => obtain rfl := Option.some.inj ho; exact h3
    | _ + 4 => simp at ho)
end Go.Proofs.YtlfamfdgphhbcabDoor
