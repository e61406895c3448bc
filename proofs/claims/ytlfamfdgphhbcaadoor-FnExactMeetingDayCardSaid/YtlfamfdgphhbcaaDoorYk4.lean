/-
  Meetings: a list of two walkers, made for a call; the code and the answer of MeetingDay, by cases.
-/
import Derived.Test.YtlfamfdgphhbcaaDoorYk3
import Derived.Test.YtlfamfdgphhbcaaDoorYz
namespace Go.Proofs.YtlfamfdgphhbcaaDoor
open Go.ChangeShapes Go.WideShapes Go.ChangeAt Go.RowKit Go.Deep

theorem fill_wal2 (x y : Wal) {z : Value} {ie : TypeInfo} (hs : ie.size = 6) :
    Instr.fill (fun i => some (i * ie.size, ie.size)) ((Array.range (2 * ie.size)).map (z.cells[· % z.cells.size]!)) [(0, .agg (vcells x).toArray), (1, .agg (vcells y).toArray)] = some (vcells x ++ vcells y).toArray := by
  have := Great.fill_whole (s := 6) (by omega) [.agg (vcells x).toArray, .agg (vcells y).toArray] ((Array.range (2 * ie.size)).map (z.cells[· % z.cells.size]!)) (by intro v hv; simp only [List.mem_cons, List.not_mem_nil, or_false] at hv; rcases hv with rfl | rfl <;> rfl) (by simp [hs])
  rw [hs] at this ⊢
  simpa [Value.cells] using this
theorem wp_twoWals {o : Oper} {a : Act} {w : World} {K : Act → World → Prop} {Q : Exit → Act → World → Prop} (x0 y0 : Operand) (ho : o.op = .buildSlice 54 2 #[(0, x0), (1, y0)]) (x y : Wal)
    (hx0 : a.eval x0 = .agg (vcells x).toArray) (hy0 : a.eval y0 = .agg (vcells y).toArray) (h : K (a.put o.dst (.slice (some ⟨w.heap.size, 0, none⟩) 2 2)) (w.alloc (.cells (vcells x ++ vcells y).toArray 28))) : Oper.wp Tryd.prog o a w K Q := by
  obtain ⟨ie, hie, hzz⟩ := Option.map_eq_some_iff.1 Tryd.infoVI
  simp only [Prod.mk.injEq] at hzz
  refine wp_buildSlice 54 28 2 _ ho _ ie _ Tryd.underlying54 hie hzz.1 (by rw [hzz.2.1]; omega) (by rw [hzz.2.1]; omega) ?_ h
  have := fill_wal2 x y (z := .agg #[.int .i16 0, .int .i16 0, .int .i16 0, .int .i16 0, .int .i16 0, .int .i8 0]) hzz.2.1
  simpa [hx0, hy0] using this
theorem wpList_twoWals {ops : Array Oper} {rest : List Oper} {o : Oper} {a : Act} {w : World} {Q : Exit → Act → World → Prop} (hg : o.guard = none) (x0 y0 : Operand) (ho : o.op = .buildSlice 54 2 #[(0, x0), (1, y0)]) (x y : Wal)
    (hx0 : a.eval x0 = .agg (vcells x).toArray) (hy0 : a.eval y0 = .agg (vcells y).toArray) (h : wpList Tryd.prog ops Q rest (a.put o.dst (.slice (some ⟨w.heap.size, 0, none⟩) 2 2)) (w.alloc (.cells (vcells x ++ vcells y).toArray 28))) : wpList Tryd.prog ops Q (o :: rest) a w :=
  wpList_plain hg fun _ hK => wp_twoWals x0 y0 ho x y hx0 hy0 (hK _ _ h)
theorem rd_twoW (x y : Wal) (w : World) : Rd (w.alloc (.cells (vcells x ++ vcells y).toArray 28)) (w.alloc (.cells (vcells x ++ vcells y).toArray 28)).heap.size vcells (some ⟨w.heap.size, 0, none⟩) [x, y] := by
  have h : Rs (w.alloc (.cells (vcells x ++ vcells y).toArray 28)) w.heap.size 28 vcells [x, y] := by
    have := Blk.new w 28 (vcells x ++ vcells y).toArray
    unfold Rs
    simpa using this
  exact h.rd (Blk.lt h)

/-- The code of MeetingDay; the day. -/
def mtC (n : Int) (a b : Wal) (f : Int) : Int := if akV n [a, b] (inS f) = 0 then (if (mdO a b f).isSome then 0 else 6) else akV n [a, b] (inS f)
def mtV (n : Int) (a b : Wal) (f : Int) : Int := if akV n [a, b] (inS f) = 0 then mdV (mdO a b f) else 0
theorem mt_no {n : Int} {a b : Wal} {f : Int} (h : akV n [a, b] (inS f) ≠ 0) : mtC n a b f = akV n [a, b] (inS f) ∧ mtV n a b f = 0 := ⟨if_neg h, if_neg h⟩
theorem mt_day {n : Int} {a b : Wal} {f : Int} (h : akV n [a, b] (inS f) = 0) {t : Int} (ht : mdO a b f = some t) : mtC n a b f = 0 ∧ mtV n a b f = t := by
  refine ⟨?_, ?_⟩
  · rw [mtC, if_pos h, ht]; rfl
  · rw [mtV, if_pos h, ht]; rfl
theorem mt_none {n : Int} {a b : Wal} {f : Int} (h : akV n [a, b] (inS f) = 0) (ht : mdO a b f = none) : mtC n a b f = 6 ∧ mtV n a b f = 0 := by
  refine ⟨?_, ?_⟩
  · rw [mtC, if_pos h, ht]; rfl
  · rw [mtV, if_pos h, ht]; rfl
theorem vsOk_two {n : Int} {a b : Wal} (h : vsOk n [a, b] = true) : (1 ≤ n ∧ n ≤ 60) ∧ vOk n a = true ∧ vOk n b = true :=
  ⟨(vsOk_out h).1, (vsOk_out h).2.2 a (by simp), (vsOk_out h).2.2 b (by simp)⟩
end Go.Proofs.YtlfamfdgphhbcaaDoor
