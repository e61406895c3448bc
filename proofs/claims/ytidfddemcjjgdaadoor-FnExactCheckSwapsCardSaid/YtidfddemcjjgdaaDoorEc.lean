/-
  The comparison of two crates as one operation. No condition but the crates' length.
-/
import Derived.Test.YtidfddemcjjgdaaDoorEq
import Derived.Test.YtidfddemcjjgdaaDoorW
namespace Go.Proofs.YtidfddemcjjgdaaDoor
open Go.ChangeShapes Go.WideShapes Go.ChangeAt Go.RowKit Go.Deep

theorem wp_eqlCrate {o : Oper} {a : Act} {w : World} {K : Act → World → Prop} {Q : Exit → Act → World → Prop} (x y : Operand) (ho : o.op = .binOp .eql 31 x y 31) (xs ys : List Bot) (hx : xs.length = 12) (hy : ys.length = 12)
    (ex : a.eval x = .agg (ccells xs).toArray) (ey : a.eval y = .agg (ccells ys).toArray) (h : K (a.put o.dst (.bool (decide (xs = ys)))) w) : Oper.wp Tryd.prog o a w K Q := by
  have hE := equalIn_crate xs ys hx hy w
  unfold Oper.wp execOp
  rw [ho]
  simp only [ex, ey]
  go_simp
  exact h
theorem wpList_eqlCrate {ops : Array Oper} {rest : List Oper} {o : Oper} {a : Act} {w : World} {Q : Exit → Act → World → Prop} (hw : Region.wanted o (yielded ops a.tmps) = true) (x y : Operand) (ho : o.op = .binOp .eql 31 x y 31) (xs ys : List Bot) (hx : xs.length = 12) (hy : ys.length = 12)
    (ex : a.eval x = .agg (ccells xs).toArray) (ey : a.eval y = .agg (ccells ys).toArray) (h : wpList Tryd.prog ops Q rest (a.put o.dst (.bool (decide (xs = ys)))) w) : wpList Tryd.prog ops Q (o :: rest) a w :=
  wpList_step fun K hK => by rw [if_pos hw]; exact wp_eqlCrate x y ho xs ys hx hy ex ey (hK _ _ h)
theorem wpList_load_row_g {P : Program} {ops : Array Oper} {rest : List Oper} {o : Oper} {a : Act} {w : World} {Q : Exit → Act → World → Prop} (hw : Region.wanted o (yielded ops a.tmps) = true) (ty : TypeId) (x : Operand) (ho : o.op = .load ty x)
    (g : Nat) (hx : a.eval x = .pointer (some ⟨g, 0, none⟩)) (t : TypeId) (cs : Array Value) (fr : Nat × Nat) (d : TypeDesc) (hg : w.heap[g]? = some (.cells cs t fr))
    (hu : P.underlying ty = some d) (hd : (match d with | .struct _ | .array _ _ => true | _ => false) = true) (hi : (P.info? ty).map (·.size) = some cs.size)
    (h : wpList P ops Q rest (a.put o.dst (.agg cs)) w) : wpList P ops Q (o :: rest) a w :=
  wpList_step fun K hK => by rw [if_pos hw]; exact wp_load_row ty x ho g hx t cs fr d hg hu hd hi (hK _ _ h)
end Go.Proofs.YtidfddemcjjgdaaDoor
