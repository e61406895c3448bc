/-
  WalkerText: mathematics; a list of one walker. No condition.
-/
import Derived.Test.YtjjdehnpnfdjcaaDoorYw
import Derived.Test.YtjjdehnpnfdjcaaDoorIa
import Derived.Test.YtjjdehnpnfdjcaaDoorJn1
import Derived.Great.BuildSlice
namespace Go.Proofs.YtjjdehnpnfdjcaaDoor
open Go.ChangeShapes Go.WideShapes Go.ChangeAt Go.RowKit Go.Deep

theorem vsOk_one {n : Int} {x : Wal} (h : vsOk n [x] = true) : (1 ≤ n ∧ n ≤ 60) ∧ vOk n x = true := by
  have := vsOk_out h
  exact ⟨this.1, this.2.2 x (by simp)⟩
theorem fill_wal (x : Wal) {z : Value} {ie : TypeInfo} (hs : ie.size = 6) :
    Instr.fill (fun i => some (i * ie.size, ie.size)) ((Array.range (1 * ie.size)).map (z.cells[· % z.cells.size]!)) [(0, .agg (vcells x).toArray)] = some (vcells x).toArray := by
  have := Great.fill_whole (s := 6) (by omega) [.agg (vcells x).toArray] ((Array.range (1 * ie.size)).map (z.cells[· % z.cells.size]!)) (by intro v hv; simp only [List.mem_cons, List.not_mem_nil, or_false] at hv; subst hv; rfl) (by simp [hs])
  rw [hs] at this ⊢
  simpa [Value.cells] using this
theorem wp_oneWal {o : Oper} {a : Act} {w : World} {K : Act → World → Prop} {Q : Exit → Act → World → Prop} (x0 : Operand) (ho : o.op = .buildSlice 40 1 #[(0, x0)]) (x : Wal)
    (hx0 : a.eval x0 = .agg (vcells x).toArray) (h : K (a.put o.dst (.slice (some ⟨w.heap.size, 0, none⟩) 1 1)) (w.alloc (.cells (vcells x).toArray 27))) : Oper.wp Tryd.prog o a w K Q := by
  obtain ⟨ie, hie, hzz⟩ := Option.map_eq_some_iff.1 Tryd.infoVI
  simp only [Prod.mk.injEq] at hzz
  refine wp_buildSlice 40 27 1 _ ho _ ie _ Tryd.underlying40 hie hzz.1 (by rw [hzz.2.1]; omega) (by rw [hzz.2.1]; omega) ?_ h
  have := fill_wal x (z := .agg #[.int .i16 0, .int .i16 0, .int .i16 0, .int .i16 0, .int .i16 0, .int .i8 0]) hzz.2.1
  simpa [hx0] using this
theorem wpList_oneWal {ops : Array Oper} {rest : List Oper} {o : Oper} {a : Act} {w : World} {Q : Exit → Act → World → Prop} (hg : o.guard = none) (x0 : Operand) (ho : o.op = .buildSlice 40 1 #[(0, x0)]) (x : Wal)
    (hx0 : a.eval x0 = .agg (vcells x).toArray) (h : wpList Tryd.prog ops Q rest (a.put o.dst (.slice (some ⟨w.heap.size, 0, none⟩) 1 1)) (w.alloc (.cells (vcells x).toArray 27))) : wpList Tryd.prog ops Q (o :: rest) a w :=
  wpList_plain hg fun _ hK => wp_oneWal x0 ho x hx0 (hK _ _ h)
theorem rd_one (x : Wal) (w : World) : Rd (w.alloc (.cells (vcells x).toArray 27)) (w.alloc (.cells (vcells x).toArray 27)).heap.size vcells (some ⟨w.heap.size, 0, none⟩) [x] := by
  have h : Rs (w.alloc (.cells (vcells x).toArray 27)) w.heap.size 27 vcells [x] := by
    have := Blk.new w 27 (vcells x).toArray
    unfold Rs
    simpa using this
  exact h.rd (Blk.lt h)
/-- The six numbers of a walker, and their words. -/
def wkN (x : Wal) : List Int := [x.fi, x.ev, x.st, x.sp, x.co, x.tu]
def wkW (x : Wal) : List ByteArray := (wkN x).map itW
def wkA (x : Wal) : ByteArray := if vOk 60 x = true then jnS ⟨#[47]⟩ (wkW x) else ⟨#[]⟩
theorem wkA_no {x : Wal} (h : vOk 60 x = false) : wkA x = ⟨#[]⟩ := by simp [wkA, h]
theorem wkA_yes {x : Wal} (h : vOk 60 x = true) : wkA x = jnS ⟨#[47]⟩ (wkW x) := by simp [wkA, h]
theorem wk_join (d0 d1 d2 d3 d4 d5 : ByteArray) : jnS ⟨#[47]⟩ [d0, d1, d2, d3, d4, d5] = d0 ++ ⟨#[47]⟩ ++ d1 ++ ⟨#[47]⟩ ++ d2 ++ ⟨#[47]⟩ ++ d3 ++ ⟨#[47]⟩ ++ d4 ++ ⟨#[47]⟩ ++ d5 := by
  rw [← jnK_nil]
  apply ByteArray.ext
  apply Array.toList_inj.1
  simp [jnK, ByteArray.data_append]
theorem wk_join2 (d0 d1 d2 d3 d4 d5 : ByteArray) : d0 ++ ⟨#[47]⟩ ++ d1 ++ ⟨#[47]⟩ ++ d2 ++ ⟨#[47]⟩ ++ d3 ++ (⟨#[47]⟩ ++ d4 ++ ⟨#[47]⟩) ++ d5 = jnS ⟨#[47]⟩ [d0, d1, d2, d3, d4, d5] := by
  rw [wk_join]
  simp [ByteArray.append_assoc]
theorem wk_join3 (d0 d1 d2 d3 d4 d5 : ByteArray) : d0 ++ ⟨#[47]⟩ ++ d1 ++ ⟨#[47]⟩ ++ d2 ++ ⟨#[47]⟩ ++ d3 ++ (⟨#[47]⟩ ++ d4 ++ ⟨#[47]⟩) ++ ⟨#[45]⟩ ++ d5 = jnS ⟨#[47]⟩ [d0, d1, d2, d3, d4, ⟨#[45]⟩ ++ d5] := by
  rw [wk_join]
  simp [ByteArray.append_assoc]
end Go.Proofs.YtjjdehnpnfdjcaaDoor
