/-
  What a make of rows leaves; two rows that are kept. No condition of its own.
-/
import Derived.Test.YtcdhmlalpjcidaaDoorV
import Derived.Laws.Rows
import Derived.Deep.RegionLaw
import Derived.Test.YtcdhmlalpjcidaaDoorFlat
namespace Go.Proofs.YtcdhmlalpjcidaaDoor
open Go.ChangeShapes Go.WideShapes Go.ChangeAt Go.RowKit Go.Deep

theorem Tryd.sizeBt : (Tryd.prog.info? 26).map (·.size) = some 2 := by kernel_rfl
theorem size_of_bot {P : Program} {t : TypeId} (h : (P.info? t).map (·.size) = some 2) (b : Bot) : (P.info? t).map (·.size) = some (ccells [b]).toArray.size := h
theorem CBlk.rowOff {w : World} {B B' : Nat} {t : TypeId} {X : List Bot} (h : CBlk w B t X) (hne : B ≠ B') (cs : Array Value) : CBlk (w.setRow B' cs) B t X := (setRow_other w B' B cs hne).trans h
theorem results_cct {P : Program} {fn : Func} {p q r : Tmp} {ty ty' : TypeId} {v2 : Value} (h : fn.results = #[.cell p ty, .cell q ty', .tmp r]) (tmps : Array Value) (hq : tmps.getD r undef = v2) (w : World) (g g' : Nat) (t t' : TypeId) (cs cs' : Array Value) (fr fr' : Nat × Nat) (d d' : TypeDesc)
    (hp : tmps.getD p undef = .pointer (some ⟨g, 0, none⟩)) (hp' : tmps.getD q undef = .pointer (some ⟨g', 0, none⟩)) (hg : w.heap[g]? = some (.cells cs t fr)) (hg' : w.heap[g']? = some (.cells cs' t' fr'))
    (hu : P.underlying ty = some d) (hd : (match d with | .struct _ | .array _ _ => true | _ => false) = true) (hi : (P.info? ty).map (·.size) = some cs.size)
    (hu' : P.underlying ty' = some d') (hd' : (match d' with | .struct _ | .array _ _ => true | _ => false) = true) (hi' : (P.info? ty').map (·.size) = some cs'.size) :
    (results fn tmps).run P w = .ok (.tuple #[.agg cs, .agg cs', v2]) w := by
  subst hq
  have e1 : tmps[p]?.getD undef = .pointer (some ⟨g, 0, none⟩) := by simpa using hp
  have e2 : tmps[q]?.getD undef = .pointer (some ⟨g', 0, none⟩) := by simpa using hp'
  simp [results, h, e1, e2, asAddr, run_loadVar_row w g t ty cs fr d hg hu hd hi, run_loadVar_row w g' t' ty' cs' fr' d' hg' hu' hd' hi']

/-- What TakeBottle answers. -/
def takeV (X : List Bot) (b : Bot) (c : Int) : Value := .tuple #[.agg (ccells X).toArray, .agg (ccells [b]).toArray, .int .i64 c]

theorem if_wanted {P : Program} {ops : Array Oper} {o : Oper} {a : Act} {w : World} {K : Act → World → Prop} {Q : Exit → Act → World → Prop} {E : Prop} (hg : o.guard = none) (h : Oper.wp P o a w K Q) :
    if Region.wanted o (yielded ops a.tmps) = true then Oper.wp P o a w K Q else E := by
  have hw : Region.wanted o (yielded ops a.tmps) = true := by simp [Region.wanted, hg]
  rw [if_pos hw]
  exact h
theorem wp_assign0 {P : Program} {o : Oper} {a : Act} {w : World} {K : Act → World → Prop} {Q : Exit → Act → World → Prop} {x : Operand} (ho : o.op = .assign x) {v : Value} (hv : a.eval x = v) (h : K (a.put o.dst v) w) : Oper.wp P o a w K Q := by
  subst hv
  unfold Oper.wp execOp
  rw [ho]
  exact h

theorem new_cell2 (W : World) (u v : Value) (t : TypeId) : (W.alloc (.cells #[u, v] t)).cell? ⟨W.heap.size, 0, none⟩ = some u ∧ (W.alloc (.cells #[u, v] t)).cell? ⟨W.heap.size, 1, none⟩ = some v := by
  have h := heap_alloc_new W (.cells #[u, v] t)
  exact ⟨by rw [cell_of_row _ _ _ _ _ _ h]; rfl, by rw [cell_of_row _ _ _ _ _ _ h]; rfl⟩

end Go.Proofs.YtcdhmlalpjcidaaDoor

namespace Go.Proofs.YtcdhmlalpjcidaaDoor
open Go.ChangeShapes Go.WideShapes Go.ChangeAt Go.RowKit Go.Joins Go.Deep

theorem made_rows {T : Type} {cells : T → List Value} {size : Nat} (hs : ∀ b, (cells b).length = size) (z : T) (zc : Array Value) (hz : zc = (cells z).toArray) (h0 : 0 < size) (n : Nat) : (madeCells zc (n * size)).toList = (List.replicate n z).flatMap cells := by
  subst hz
  apply List.ext_getElem?
  intro i
  by_cases hi : i < n * size
  · have hk : i / size < n := Nat.div_lt_of_lt_mul (by rw [Nat.mul_comm]; exact hi)
    have hr := rows_get hs (List.replicate n z) (k := i / size) (b := z) (by rw [List.getElem?_replicate, if_pos hk]) (i % size) (Nat.mod_lt _ h0)
    rw [Nat.div_add_mod' i size] at hr
    rw [hr]
    have hm : i % size < (cells z).length := by rw [hs]; exact Nat.mod_lt _ h0
    simp [madeCells, hi, hs, List.getElem?_eq_getElem hm]
  · rw [List.getElem?_eq_none (by simp [madeCells]; omega), List.getElem?_eq_none (by rw [rows_length hs]; simp; omega)]

theorem keptR {W0 w1 w2 : World} {b o b' o' : Nat} {cs cs' : List Value} (hb : b < W0.heap.size) (hb' : b' < W0.heap.size) (h : Below W0.heap.size W0 w1) (h2 : Below w1.heap.size w1 w2) (r : w1.rangeAt b o cs) (r' : w1.rangeAt b' o' cs') :
    w2.rangeAt b o cs ∧ w2.rangeAt b' o' cs' ∧ Below W0.heap.size W0 w2 :=
  ⟨rangeAt_below r h2 (Nat.lt_of_lt_of_le hb h.size), rangeAt_below r' h2 (Nat.lt_of_lt_of_le hb' h.size), h.trans (h2.mono h.size)⟩

end Go.Proofs.YtcdhmlalpjcidaaDoor
