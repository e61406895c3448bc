/-
  Pairs: swapped, greaterOf, wins, isAscending, the pairs that ascend, sums of numbers of pairs. Condition: samples below nine.
-/
import Derived.Test.YtfmfgpipklmecaaDoorZp
import Derived.Deep.RegionHeld3
namespace Go.Proofs.YtfmfgpipklmecaaDoor
open Go.ChangeShapes Go.WideShapes Go.ChangeAt Go.RowKit Go.Deep
open Go.Maps (Keyed)

theorem yieldsIf_lookupR {P : Program} {ops : Array Oper} {S : World → Prop} {op : Oper} {a : Act} (hw : Region.wanted op (yielded ops a.tmps) = true) (t : TypeId) (m x : Operand) (ho : op.op = .lookup t m x false) {mv key v : Value} (hm : a.eval m = mv) (hx : a.eval x = key)
    (hrun : ∀ w, S w → (Instr.lookup t mv key false).run P w = .ok v w) : YieldsIf P ops S op v a :=
  .inl ⟨hw, fun w h => by
    unfold execOp
    simp [ho, hm, hx, hrun w h, Result.andThen]⟩
theorem Tryd.sizePq : (Tryd.prog.info? 68).map (·.size) = some 2 := by kernel_rfl
theorem pq_range (w : World) (p : Pq) : (w.alloc (.cells #[.int .i64 p.1, .int .i64 p.2] 68)).rangeAt w.heap.size 0 (pqc p) := by
  have hK : Rs (w.alloc (.cells #[.int .i64 p.1, .int .i64 p.2] 68)) w.heap.size 68 pqc [p] := by
    have := Blk.new w 68 #[Value.int .i64 p.1, Value.int .i64 p.2]
    simpa [Rs, pqc] using this
  have := Rs.range hK
  simpa using this

/-- The greater number of both ways. -/
def gP (ps : List Pq) (p : Pq) : Int := max ((cntP ps p : Nat) : Int) ((cntP ps (p.2, p.1) : Nat) : Int)
/-- The sum of numbers of the first k. -/
def suP (g : Pq → Int) (qs : List Pq) : Int := (qs.map g).sum
theorem suP_snoc (g : Pq → Int) (qs : List Pq) (p : Pq) : suP g (qs ++ [p]) = suP g qs + g p := by simp [suP]
theorem suP_take {g : Pq → Int} {qs : List Pq} {k : Nat} {p : Pq} (h : qs[k]? = some p) : suP g (qs.take (k + 1)) = suP g (qs.take k) + g p := by
  obtain ⟨hlt, he⟩ := List.getElem?_eq_some_iff.1 h
  rw [List.take_succ_eq_append_getElem hlt, he, suP_snoc]
theorem suP_b {g : Pq → Int} {M : Int} : ∀ {qs : List Pq}, (∀ p ∈ qs, 0 ≤ g p ∧ g p ≤ M) → 0 ≤ suP g qs ∧ suP g qs ≤ qs.length * M
  | [], _ => by simp [suP]
  | p :: qs, h => by
    have h1 := suP_b (qs := qs) (fun q hq => h q (List.mem_cons_of_mem _ hq))
    have h2 := h p (List.mem_cons_self ..)
    have e : suP g (p :: qs) = g p + suP g qs := by simp [suP]
    have e2 : (((p :: qs).length : Nat) : Int) * M = (qs.length : Int) * M + M := by
      rw [List.length_cons, Int.natCast_add, Int.add_mul]; simp
    rw [e, e2]; omega

theorem suP_congr {g h : Pq → Int} {qs : List Pq} (e : ∀ p ∈ qs, g p = h p) : suP g qs = suP h qs := by
  unfold suP
  rw [List.map_congr_left e]
theorem cell_lt9 {w : World} {g j : Nat} {v : Value} (h : w.cell? ⟨g, j, none⟩ = some v) : g < w.heap.size := by
  rcases Nat.lt_or_ge g w.heap.size with h' | h'
  · exact h'
  · simp [World.cell?, Array.getElem?_eq_none h'] at h

end Go.Proofs.YtfmfgpipklmecaaDoor
