/-
  The contracts of VisitsOf, WalksOn and WalksUntil, of the model and of the program. Condition: the walker's numbers fit their kinds; the sentinel errors lie as the row lists them (the program's).
-/
import Derived.Test.YtlfamfdgphhbcaaDoorYx
import Derived.Test.YtlfamfdgphhbcaaDoorYa
import Derived.Test.YtlfamfdgphhbcaaDoorNp
namespace Go.Proofs.YtlfamfdgphhbcaaDoor
open Go.ChangeShapes Go.WideShapes Go.ChangeAt Go.RowKit Go.Deep

/-- The list of visits that is told; its code. -/
def voC (n : Int) (x : Wal) : Int := akV n [x] true
def voL (n : Int) (x : Wal) : List Int := if voC n x = 0 then vis n.toNat x else []
theorem vsOk_one {n : Int} {x : Wal} (h : vsOk n [x] = true) : (1 ≤ n ∧ n ≤ 60) ∧ vOk n x = true := by
  have := vsOk_out h
  exact ⟨this.1, this.2.2 x (by simp)⟩
theorem fill_wal (x : Wal) {z : Value} {ie : TypeInfo} (hs : ie.size = 6) :
    Instr.fill (fun i => some (i * ie.size, ie.size)) ((Array.range (1 * ie.size)).map (z.cells[· % z.cells.size]!)) [(0, .agg (vcells x).toArray)] = some (vcells x).toArray := by
  have := Great.fill_whole (s := 6) (by omega) [.agg (vcells x).toArray] ((Array.range (1 * ie.size)).map (z.cells[· % z.cells.size]!)) (by intro v hv; simp only [List.mem_cons, List.not_mem_nil, or_false] at hv; subst hv; rfl) (by simp [hs])
  rw [hs] at this ⊢
  simpa [Value.cells] using this
theorem wp_oneWal {o : Oper} {a : Act} {w : World} {K : Act → World → Prop} {Q : Exit → Act → World → Prop} (x0 : Operand) (ho : o.op = .buildSlice 54 1 #[(0, x0)]) (x : Wal)
    (hx0 : a.eval x0 = .agg (vcells x).toArray) (h : K (a.put o.dst (.slice (some ⟨w.heap.size, 0, none⟩) 1 1)) (w.alloc (.cells (vcells x).toArray 28))) : Oper.wp Tryd.prog o a w K Q := by
  obtain ⟨ie, hie, hzz⟩ := Option.map_eq_some_iff.1 Tryd.infoVI
  simp only [Prod.mk.injEq] at hzz
  refine wp_buildSlice 54 28 1 _ ho _ ie _ Tryd.underlying54 hie hzz.1 (by rw [hzz.2.1]; omega) (by rw [hzz.2.1]; omega) ?_ h
  have := fill_wal x (z := .agg #[.int .i16 0, .int .i16 0, .int .i16 0, .int .i16 0, .int .i16 0, .int .i8 0]) hzz.2.1
  simpa [hx0] using this
theorem wpList_oneWal {ops : Array Oper} {rest : List Oper} {o : Oper} {a : Act} {w : World} {Q : Exit → Act → World → Prop} (hg : o.guard = none) (x0 : Operand) (ho : o.op = .buildSlice 54 1 #[(0, x0)]) (x : Wal)
    (hx0 : a.eval x0 = .agg (vcells x).toArray) (h : wpList Tryd.prog ops Q rest (a.put o.dst (.slice (some ⟨w.heap.size, 0, none⟩) 1 1)) (w.alloc (.cells (vcells x).toArray 28))) : wpList Tryd.prog ops Q (o :: rest) a w :=
  wpList_plain hg fun _ hK => wp_oneWal x0 ho x hx0 (hK _ _ h)
theorem rd_one (x : Wal) (w : World) : Rd (w.alloc (.cells (vcells x).toArray 28)) (w.alloc (.cells (vcells x).toArray 28)).heap.size vcells (some ⟨w.heap.size, 0, none⟩) [x] := by
  have h : Rs (w.alloc (.cells (vcells x).toArray 28)) w.heap.size 28 vcells [x] := by
    have := Blk.new w 28 (vcells x).toArray
    unfold Rs
    simpa using this
  exact h.rd (Blk.lt h)
theorem voL_no {n : Int} {x : Wal} (h : voC n x ≠ 0) : voL n x = [] := if_neg h
theorem voL_yes {n : Int} {x : Wal} (h : voC n x = 0) : voL n x = vis n.toNat x := if_pos h
theorem akV_inv {n : Int} {l : List Wal} {f : Bool} (h : vsOk n l = false) : akV n l f = 1 := by simp [akV, h]
theorem akV_ok {n : Int} {l : List Wal} {f : Bool} (h : vsOk n l = true) : akV n l f = if f = true then 0 else 2 := by simp [akV, h]
theorem nil_own (w : World) (t : TypeId) (b : Nat) : w.ownsRow b t 1 (.slice none 0 0) ([] : List Int).length (([] : List Int).flatMap icells) := ⟨rfl, .inl ⟨rfl, rfl⟩⟩
theorem empty_ownI (w : World) (b : Nat) (hb : b ≤ w.heap.size) : (w.alloc (.cells #[] 2)).ownsRow b 2 1 (.slice (some ⟨w.heap.size, 0, none⟩) 0 0) ([] : List Int).length (([] : List Int).flatMap icells) :=
  ⟨rfl, .inr ⟨w.heap.size, 0, #[], rfl, hb, heap_alloc_new w _, Nat.le_refl _, by unfold maxLen; omega, by simp, by simp⟩⟩

def woB (n : Int) (x : Wal) (d : Int) : Bool := if akV n [x] (inS d) = 0 then onD x d else false
def wuN (n : Int) (x : Wal) (d : Int) : Int := if akV n [x] (inS d) = 0 then unD x d else 0
end Go.Proofs.YtlfamfdgphhbcaaDoor
