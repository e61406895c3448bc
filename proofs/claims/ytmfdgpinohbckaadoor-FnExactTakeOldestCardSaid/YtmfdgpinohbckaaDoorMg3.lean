/-
  What a make of rows leaves; two rows that are kept. No condition of its own.
-/
import Derived.Test.YtmfdgpinohbckaaDoorMg2
import Derived.Test.YtmfdgpinohbckaaDoorFlat
import Derived.Deep.RegionHeld3
import Derived.WalkKit
import Derived.Laws.Rows
import Derived.Deep.RegionLaw
namespace Go.Proofs.YtmfdgpinohbckaaDoor
open Go.ChangeShapes Go.WideShapes Go.ChangeAt Go.RowKit Go.Deep

/-- A want: a bottle and a number. -/
abbrev Wnt := Bot × Int
def wfW (x : Wnt) : Prop := wfB x.1 ∧ -32768 ≤ x.2 ∧ x.2 ≤ 32767
def wcells (x : Wnt) : List Value := [.int .u8 x.1.1, .int .i16 x.1.2, .int .i16 x.2]
theorem wcells_length (x : Wnt) : (wcells x).length = 3 := rfl
theorem wcells_one (x : Wnt) : (wcells x).toArray.all (·.oneCell') = true := all_one (by intro v hv; simp only [wcells, List.mem_cons, List.not_mem_nil, or_false] at hv; rcases hv with rfl | rfl | rfl <;> rfl)
theorem wcells_of (cs : List Value) (h : FitsL [.u8, .i16, .i16] cs) : ∃ b, wfW b ∧ cs = wcells b := by
  match cs, h.length, h with
  | [c0, c1, c2], _, h =>
    obtain ⟨⟨k, rfl, hk⟩, ⟨y, rfl, hy⟩, ⟨n, rfl, hn⟩, _⟩ := h
    have hk := wf_u8 hk
    have hy := wf_i16 hy
    have hn := wf_i16 hn
    exact ⟨((k, y), n), ⟨⟨hk.1, hk.2, hy.1, hy.2⟩, hn.1, hn.2⟩, rfl⟩
end Go.Proofs.YtmfdgpinohbckaaDoor

namespace Go.Proofs.YtmfdgpinohbckaaDoor
open Go.ChangeShapes Go.WideShapes Go.ChangeAt Go.RowKit Go.Deep

theorem Tryd.flatBL : FlatT Tryd.prog 38 [.u8, .i16] :=
  flat_struct (fs := [_, _]) (kss := [[.u8], [.i16]]) Tryd.underlying38 (by kernel_rfl) ⟨by kernel_rfl, rfl, .int Tryd.underlying5, by kernel_rfl, rfl, .int Tryd.underlying26, trivial⟩
theorem Tryd.flatTL : FlatT Tryd.prog 90 [.u8, .i16, .i16] :=
  flat_struct (fs := [_, _]) (kss := [[.u8, .i16], [.i16]]) Tryd.underlying90 (by kernel_rfl) ⟨by kernel_rfl, rfl, Tryd.flatBL, by kernel_rfl, rfl, .int Tryd.underlying26, trivial⟩
theorem Tryd.cellsTL : Tryd.prog.cellsOf 90 = 3 := by kernel_rfl
theorem Tryd.sizeTL : (Tryd.prog.info? 90).map (·.size) = some 3 := by kernel_rfl
theorem Tryd.sizeTI : (Tryd.prog.info? 30).map (·.size) = some 3 := by kernel_rfl
theorem Tryd.infoTI : (Tryd.prog.info? 30).map (fun i => (i.zero, i.size, i.bytes)) = some (some (.agg #[.int .u8 0, .int .i16 0, .int .i16 0]), 3, 6) := by kernel_rfl

theorem toBottle_ex (k y : Int) (w : World) : Calls Tryd.prog 17 #[.agg #[.int .u8 k, .int .i16 y]] w fun e w' => e = .returned (.agg #[.int .u8 k, .int .i16 y]) ∧
    w' = (((w.alloc (.cells #[.int .u8 k, .int .i16 y] 38)).alloc (.cells #[.int .u8 k, .int .i16 y] 28)).alloc (.cells #[.int .u8 k, .int .i16 y] 28)) := by
  go_enter Tryd.func17, Tryd.ntmps17
  go_wp2
  refine bodyPost_ret (v := .agg #[.int .u8 k, .int .i16 y]) (by simp [results, Tryd.results17, go_sem]) rfl ⟨rfl, rfl⟩
theorem toStored_any (x : Wnt) (w : World) : Calls Tryd.prog 56 #[.agg (wcells x).toArray] w fun e w' => e = .returned (.agg (wcells x).toArray) ∧ Below w.heap.size w w' := by
  obtain ⟨⟨k, y⟩, n⟩ := x
  show Calls Tryd.prog 56 #[.agg #[.int .u8 k, .int .i16 y, .int .i16 n]] w fun e w' => e = .returned (.agg #[.int .u8 k, .int .i16 y, .int .i16 n]) ∧ Below w.heap.size w w'
  go_enter Tryd.func56, Tryd.ntmps56
  go_wp2_with (go_at_call 17; refine (toBottle_ex _ _ _).mono ?_; rintro e w' ⟨rfl, rfl⟩)
  refine bodyPost_ret (v := .agg #[.int .u8 k, .int .i16 y, .int .i16 n]) (by simp [results, Tryd.results56, go_sem]) rfl ⟨rfl, (by repeat (first | exact Below.refl _ _ | refine Below.drew ?_ | refine Below.alloc ?_ (by simp <;> omega) _ | refine Below.setCell ?_ (by simp <;> omega) _))⟩
theorem eqBottle_sameA (k y : Int) (w : World) : Calls Tryd.prog 45 #[.agg #[.int .u8 k, .int .i16 y], .agg #[.int .u8 k, .int .i16 y]] w fun e w' => e = .returned (.bool true) ∧ Below w.heap.size w w' := by
  go_enter Tryd.func45, Tryd.ntmps45
  go_wp2
  go_ret
  exact ⟨rfl, (by repeat (first | exact Below.refl _ _ | refine Below.drew ?_ | refine Below.alloc ?_ (by simp <;> omega) _ | refine Below.setCell ?_ (by simp <;> omega) _))⟩
theorem eqBottle_ex (k y : Int) (w : World) : Calls Tryd.prog 45 #[.agg #[.int .u8 k, .int .i16 y], .agg #[.int .u8 k, .int .i16 y]] w fun e w' => e = .returned (.bool true) ∧
    w' = (w.alloc (.cells #[.int .u8 k, .int .i16 y] 28)).alloc (.cells #[.int .u8 k, .int .i16 y] 28) := by
  go_enter Tryd.func45, Tryd.ntmps45
  go_wp2
  go_ret
  exact ⟨rfl, rfl⟩
theorem eqStored_same (x : Wnt) (w : World) : Calls Tryd.prog 13 #[.agg (wcells x).toArray, .agg (wcells x).toArray] w fun e w' => e = .returned (.bool true) ∧ Below w.heap.size w w' := by
  obtain ⟨⟨k, y⟩, n⟩ := x
  show Calls Tryd.prog 13 #[.agg #[.int .u8 k, .int .i16 y, .int .i16 n], .agg #[.int .u8 k, .int .i16 y, .int .i16 n]] w fun e w' => e = .returned (.bool true) ∧ Below w.heap.size w w'
  go_enter Tryd.func13, Tryd.ntmps13
  go_wp2_with (go_at_call 45; refine (eqBottle_ex _ _ _).mono ?_; rintro e w' ⟨rfl, rfl⟩)
  all_goals (go_ret; exact ⟨rfl, (by repeat (first | exact Below.refl _ _ | refine Below.drew ?_ | refine Below.alloc ?_ (by simp <;> omega) _ | refine Below.setCell ?_ (by simp <;> omega) _))⟩)
end Go.Proofs.YtmfdgpinohbckaaDoor

namespace Go.Proofs.YtmfdgpinohbckaaDoor
open Go.ChangeShapes Go.WideShapes Go.ChangeAt Go.RowKit Go.Deep

theorem if_wanted {P : Program} {ops : Array Oper} {o : Oper} {a : Act} {w : World} {K : Act → World → Prop} {Q : Exit → Act → World → Prop} {E : Prop} (hg : o.guard = none) (h : Oper.wp P o a w K Q) :
    if Region.wanted o (yielded ops a.tmps) = true then Oper.wp P o a w K Q else E := by
  have hw : Region.wanted o (yielded ops a.tmps) = true := by simp [Region.wanted, hg]
  rw [if_pos hw]
  exact h
theorem wp_assign0 {P : Program} {o : Oper} {a : Act} {w : World} {K : Act → World → Prop} {Q : Exit → Act → World → Prop} {x : Operand} (ho : o.op = .assign x) {v : Value} (hv : a.eval x = v) (h : K (a.put o.dst v) w) : Oper.wp P o a w K Q := by
  subst hv
  unfold Oper.wp execOp
  rw [ho]
  exact h

theorem new_cell2 (W : World) (u v : Value) (t : TypeId) : (W.alloc (.cells #[u, v] t)).cell? ⟨W.heap.size, 0, none⟩ = some u ∧ (W.alloc (.cells #[u, v] t)).cell? ⟨W.heap.size, 1, none⟩ = some v := by
  have h := heap_alloc_new W (.cells #[u, v] t)
  exact ⟨by rw [cell_of_row _ _ _ _ _ _ h]; rfl, by rw [cell_of_row _ _ _ _ _ _ h]; rfl⟩

end Go.Proofs.YtmfdgpinohbckaaDoor

namespace Go.Proofs.YtmfdgpinohbckaaDoor
open Go.ChangeShapes Go.WideShapes Go.ChangeAt Go.RowKit Go.Joins Go.Deep

theorem made_rows {T : Type} {cells : T → List Value} {size : Nat} (hs : ∀ b, (cells b).length = size) (z : T) (zc : Array Value) (hz : zc = (cells z).toArray) (h0 : 0 < size) (n : Nat) : (madeCells zc (n * size)).toList = (List.replicate n z).flatMap cells := by
  subst hz
  apply List.ext_getElem?
  intro i
  by_cases hi : i < n * size
  · have hk : i / size < n := Nat.div_lt_of_lt_mul (by rw [Nat.mul_comm]; exact hi)
    have hr := rows_get hs (List.replicate n z) (k := i / size) (b := z) (by rw [List.getElem?_replicate, if_pos hk]) (i % size) (Nat.mod_lt _ h0)
    rw [Nat.div_add_mod' i size] at hr
    rw [hr]
    have hm : i % size < (cells z).length := by rw [hs]; exact Nat.mod_lt _ h0
    simp [madeCells, hi, hs, List.getElem?_eq_getElem hm]
  · rw [List.getElem?_eq_none (by simp [madeCells]; omega), List.getElem?_eq_none (by rw [rows_length hs]; simp; omega)]

theorem keptR {W0 w1 w2 : World} {b o b' o' : Nat} {cs cs' : List Value} (hb : b < W0.heap.size) (hb' : b' < W0.heap.size) (h : Below W0.heap.size W0 w1) (h2 : Below w1.heap.size w1 w2) (r : w1.rangeAt b o cs) (r' : w1.rangeAt b' o' cs') :
    w2.rangeAt b o cs ∧ w2.rangeAt b' o' cs' ∧ Below W0.heap.size W0 w2 :=
  ⟨rangeAt_below r h2 (Nat.lt_of_lt_of_le hb h.size), rangeAt_below r' h2 (Nat.lt_of_lt_of_le hb' h.size), h.trans (h2.mono h.size)⟩

end Go.Proofs.YtmfdgpinohbckaaDoor
