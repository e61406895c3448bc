/-
  The sentinel errors: what the row's listed variables give; errors.Is and codeOf by contracts. Condition: the variables hold what the row lists.
-/
import Derived.Test.YtcdhmlalpjcidaaDoorL
import Derived.WalkKit
import Derived.LaidEql
import Derived.Stop.Asserts
import Derived.Stop.LaidErr
import Derived.RowKitTokens
import Derived.Lib.Hide
namespace Go.Proofs.YtcdhmlalpjcidaaDoor
open Go.ChangeShapes Go.WideShapes Go.ChangeAt Go.RowKit Go.Extern.Stop Go.Stop Go.Extern

/-! ### The variables -/
/-- The variable's number of the i-th sentinel: range, limit, state, syntax, notfound, invalid, proof. -/
def gN : Nat → Nat
  | 0 => 2
  | 1 => 3
  | 2 => 1
  | 3 => 4
  | 4 => 0
  | 5 => 6
  | _ => 5
/-- The value of an error that lies at a. -/
def errV (a : Addr) : Value := .iface 173 (.pointer (some a))
/-- The first n sentinels lie as they should. -/
structure EW (n : Nat) (W : World) (ad : Nat → Addr) : Prop where
  cell : ∀ i, i < n → W.cell? ⟨gN i, 0, none⟩ = some (.iface 173 (.pointer (some (ad i))))
  row : ∀ i, i < n → ∃ c t, W.heap[(ad i).block]? = some (.cells c t (0, 0))
  ne : ∀ i j, i < n → j < n → i ≠ j → ad i ≠ ad j
theorem EW.below {n : Nat} {W W' : World} {ad : Nat → Addr} (h : EW n W ad) {B : Nat} (hb : Below B W W') (hB : W.heap.size ≤ B) : EW n W' ad :=
  ⟨fun i hi => (hb.cell (p := ⟨gN i, 0, none⟩) (Nat.lt_of_lt_of_le (block_lt_of_cell (h.cell i hi)) hB)).trans (h.cell i hi),
   fun i hi => by obtain ⟨c, t, hc⟩ := h.row i hi; exact ⟨c, t, (hb.block _ (Nat.lt_of_lt_of_le (Array.getElem?_eq_some_iff.1 hc).1 hB)).trans hc⟩, h.ne⟩
theorem EW.less {n m : Nat} {W : World} {ad : Nat → Addr} (h : EW n W ad) (hm : m ≤ n) : EW m W ad :=
  ⟨fun i hi => h.cell i (by omega), fun i hi => h.row i (by omega), fun i j hi hj => h.ne i j (by omega) (by omega)⟩

/-! ### errors.Is -/
theorem Tryd.isTypeOf (v : Value) (w : World) : (Extern.ReflectliteType.typeOf #[.iface 173 v]).run Tryd.prog w = .ok (.iface 157 (.agg #[.pointer (some ⟨7, 173, none⟩)])) w := by kernel_rfl
theorem Tryd.callComparable (w : World) : (callFunc 137 #[.agg #[.pointer (some ⟨7, 173, none⟩)]]).run Tryd.prog w = .ok (.value (.bool true)) w := by kernel_rfl
theorem Tryd.isMethodComparable (v : Value) (w : World) : (Go.method 311 157 v "Comparable").run Tryd.prog w = .ok (137, v) w := by kernel_rfl
theorem Tryd.isComp : (Tryd.prog.info? 173).map (·.comparable) = some true := by kernel_rfl
theorem Tryd.isSize : (Tryd.prog.info? 199).map (·.size) = some 1 := by kernel_rfl
theorem Tryd.noIsE (v : Value) (xT : TypeId) (w : World) : (Instr.typeAssert (.iface 173 v) xT 159 true).run Tryd.prog w = .ok (.tuple #[.nilIface, .bool false]) w := run_typeAssert_lacksB Tryd.underlying159 (by kernel_rfl) (by kernel_rfl) v xT w
theorem Tryd.noUnwrapE (v : Value) (xT : TypeId) (w : World) : (Instr.typeAssert (.iface 173 v) xT 162 true).run Tryd.prog w = .ok (.tuple #[.nilIface, .bool false]) w := run_typeAssert_lacksB Tryd.underlying162 (by kernel_rfl) (by kernel_rfl) v xT w
theorem Tryd.noUnwrapsE (v : Value) (xT : TypeId) (w : World) : (Instr.typeAssert (.iface 173 v) xT 164 true).run Tryd.prog w = .ok (.tuple #[.nilIface, .bool false]) w := run_typeAssert_lacksB Tryd.underlying164 (by kernel_rfl) (by kernel_rfl) v xT w

set_option maxRecDepth 100000 in
theorem isErr_same (a : Addr) (w : World) :
    Calls Tryd.prog 63 #[.iface 173 (.pointer (some a)), .iface 173 (.pointer (some a))] w fun e w' => e = .returned (.bool true) ∧ w = w' := by
  obtain ⟨i, hi, hcmp⟩ := Option.map_eq_some_iff.1 Tryd.isComp
  obtain ⟨j, hj, hjs⟩ := Option.map_eq_some_iff.1 Tryd.isSize
  have h8 := @run_callFunc_extern Tryd.prog 89 _ Extern.ReflectliteType.typeOf Tryd.func89 (by kernel_rfl) (by kernel_rfl) (by kernel_rfl) (by kernel_rfl)
  have h32 := Tryd.callComparable
  have tT := Tryd.isTypeOf
  have mR := Tryd.isMethodComparable
  have heq := run_eql_iface_ptr_same (P := Tryd.prog) w a Tryd.underlying74 Tryd.underlying173 hi hcmp hj
  go_enter Tryd.func63, Tryd.ntmps63
  go_wp2
  refine wp_loop_rounds 1 ?_
  rw [rounds_succ]
  go_wp2
  go_ret
  exact ⟨rfl, rfl⟩
set_option maxRecDepth 100000 in
theorem isErr_other (a b : Addr) (ca cb : Array Value) (ta tb : TypeId) (w : World) (hne : a ≠ b) (ha : w.heap[a.block]? = some (.cells ca ta (0, 0))) (hb : w.heap[b.block]? = some (.cells cb tb (0, 0))) :
    Calls Tryd.prog 63 #[.iface 173 (.pointer (some a)), .iface 173 (.pointer (some b))] w fun e w' => e = .returned (.bool false) ∧ w = w' := by
  obtain ⟨i, hi, hcmp⟩ := Option.map_eq_some_iff.1 Tryd.isComp
  obtain ⟨j, hj, hjs⟩ := Option.map_eq_some_iff.1 Tryd.isSize
  have h8 := @run_callFunc_extern Tryd.prog 89 _ Extern.ReflectliteType.typeOf Tryd.func89 (by kernel_rfl) (by kernel_rfl) (by kernel_rfl) (by kernel_rfl)
  have h32 := Tryd.callComparable
  have tT := Tryd.isTypeOf
  have mR := Tryd.isMethodComparable
  have nE := Tryd.noIsE
  have uE := Tryd.noUnwrapE
  have vE := Tryd.noUnwrapsE
  have heq := run_eql_iface_ptr_other (P := Tryd.prog) w Tryd.underlying74 Tryd.underlying173 hi hcmp hj (by rw [hjs]; decide) hne ha hb
  go_enter Tryd.func63, Tryd.ntmps63
  go_wp2
  refine wp_loop_rounds 1 ?_
  rw [rounds_succ]
  go_wp2
  go_ret
  exact ⟨rfl, rfl⟩
theorem is_hit {n : Nat} {w : World} {ad : Nat → Addr} (_h : EW n w ad) (i : Nat) : Calls Tryd.prog 63 #[.iface 173 (.pointer (some (ad i))), .iface 173 (.pointer (some (ad i)))] w fun e w' => e = .returned (.bool true) ∧ w = w' := isErr_same _ w
theorem is_miss {n : Nat} {w : World} {ad : Nat → Addr} (h : EW n w ad) (i j : Nat) (hi : i < n) (hj : j < n) (hij : i ≠ j) : Calls Tryd.prog 63 #[.iface 173 (.pointer (some (ad i))), .iface 173 (.pointer (some (ad j)))] w fun e w' => e = .returned (.bool false) ∧ w = w' := by
  obtain ⟨c, t, hc⟩ := h.row i hi
  obtain ⟨c', t', hc'⟩ := h.row j hj
  exact isErr_other _ _ c c' t t' w (h.ne i j hi hj hij) hc hc'

/-! ### codeOf -/
theorem codeOf_nil (w : World) : Calls Tryd.prog 39 #[.nilIface] w fun e w' => e = .returned (.int .i64 0) ∧ w = w' := by
  go_enter Tryd.func39, Tryd.ntmps39
  go_wp2
  go_ret
  exact ⟨rfl, rfl⟩
set_option maxHeartbeats 1000000 in
theorem codeOf_0 {w : World} {ad : Nat → Addr} (h : EW 5 w ad) : Calls Tryd.prog 39 #[.iface 173 (.pointer (some (ad 0)))] w fun e w' => e = .returned (.int .i64 2) ∧ w = w' := by
  have c0 : w.cell? ⟨2, 0, none⟩ = some (.iface 173 (.pointer (some (ad 0)))) := h.cell 0 (by omega)
  have H := Lib.hid h
  clear h
  go_enter Tryd.func39, Tryd.ntmps39
  go_wp2_with fail
  refine (is_hit H.out 0).mono ?_
  rintro e w' ⟨rfl, rfl⟩
  go_wp2
  go_ret
  exact ⟨rfl, rfl⟩
set_option maxHeartbeats 1000000 in
theorem codeOf_1 {w : World} {ad : Nat → Addr} (h : EW 5 w ad) : Calls Tryd.prog 39 #[.iface 173 (.pointer (some (ad 1)))] w fun e w' => e = .returned (.int .i64 3) ∧ w = w' := by
  have c0 : w.cell? ⟨2, 0, none⟩ = some (.iface 173 (.pointer (some (ad 0)))) := h.cell 0 (by omega)
  have c1 : w.cell? ⟨3, 0, none⟩ = some (.iface 173 (.pointer (some (ad 1)))) := h.cell 1 (by omega)
  have H := Lib.hid h
  clear h
  go_enter Tryd.func39, Tryd.ntmps39
  go_wp2_with fail
  refine (is_miss H.out 1 0 (by omega) (by omega) (by omega)).mono ?_
  rintro e w' ⟨rfl, rfl⟩
  go_wp2_with fail
  refine (is_hit H.out 1).mono ?_
  rintro e w' ⟨rfl, rfl⟩
  go_wp2
  go_ret
  exact ⟨rfl, rfl⟩
set_option maxHeartbeats 1000000 in
theorem codeOf_2 {w : World} {ad : Nat → Addr} (h : EW 5 w ad) : Calls Tryd.prog 39 #[.iface 173 (.pointer (some (ad 2)))] w fun e w' => e = .returned (.int .i64 4) ∧ w = w' := by
  have c0 : w.cell? ⟨2, 0, none⟩ = some (.iface 173 (.pointer (some (ad 0)))) := h.cell 0 (by omega)
  have c1 : w.cell? ⟨3, 0, none⟩ = some (.iface 173 (.pointer (some (ad 1)))) := h.cell 1 (by omega)
  have c2 : w.cell? ⟨1, 0, none⟩ = some (.iface 173 (.pointer (some (ad 2)))) := h.cell 2 (by omega)
  have H := Lib.hid h
  clear h
  go_enter Tryd.func39, Tryd.ntmps39
  go_wp2_with fail
  refine (is_miss H.out 2 0 (by omega) (by omega) (by omega)).mono ?_
  rintro e w' ⟨rfl, rfl⟩
  go_wp2_with fail
  refine (is_miss H.out 2 1 (by omega) (by omega) (by omega)).mono ?_
  rintro e w' ⟨rfl, rfl⟩
  go_wp2_with fail
  refine (is_hit H.out 2).mono ?_
  rintro e w' ⟨rfl, rfl⟩
  go_wp2
  go_ret
  exact ⟨rfl, rfl⟩
set_option maxHeartbeats 1000000 in
theorem codeOf_3 {w : World} {ad : Nat → Addr} (h : EW 5 w ad) : Calls Tryd.prog 39 #[.iface 173 (.pointer (some (ad 3)))] w fun e w' => e = .returned (.int .i64 5) ∧ w = w' := by
  have c0 : w.cell? ⟨2, 0, none⟩ = some (.iface 173 (.pointer (some (ad 0)))) := h.cell 0 (by omega)
  have c1 : w.cell? ⟨3, 0, none⟩ = some (.iface 173 (.pointer (some (ad 1)))) := h.cell 1 (by omega)
  have c2 : w.cell? ⟨1, 0, none⟩ = some (.iface 173 (.pointer (some (ad 2)))) := h.cell 2 (by omega)
  have c3 : w.cell? ⟨4, 0, none⟩ = some (.iface 173 (.pointer (some (ad 3)))) := h.cell 3 (by omega)
  have H := Lib.hid h
  clear h
  go_enter Tryd.func39, Tryd.ntmps39
  go_wp2_with fail
  refine (is_miss H.out 3 0 (by omega) (by omega) (by omega)).mono ?_
  rintro e w' ⟨rfl, rfl⟩
  go_wp2_with fail
  refine (is_miss H.out 3 1 (by omega) (by omega) (by omega)).mono ?_
  rintro e w' ⟨rfl, rfl⟩
  go_wp2_with fail
  refine (is_miss H.out 3 2 (by omega) (by omega) (by omega)).mono ?_
  rintro e w' ⟨rfl, rfl⟩
  go_wp2_with fail
  refine (is_hit H.out 3).mono ?_
  rintro e w' ⟨rfl, rfl⟩
  go_wp2
  go_ret
  exact ⟨rfl, rfl⟩
set_option maxHeartbeats 1000000 in
theorem codeOf_4 {w : World} {ad : Nat → Addr} (h : EW 5 w ad) : Calls Tryd.prog 39 #[.iface 173 (.pointer (some (ad 4)))] w fun e w' => e = .returned (.int .i64 6) ∧ w = w' := by
  have c0 : w.cell? ⟨2, 0, none⟩ = some (.iface 173 (.pointer (some (ad 0)))) := h.cell 0 (by omega)
  have c1 : w.cell? ⟨3, 0, none⟩ = some (.iface 173 (.pointer (some (ad 1)))) := h.cell 1 (by omega)
  have c2 : w.cell? ⟨1, 0, none⟩ = some (.iface 173 (.pointer (some (ad 2)))) := h.cell 2 (by omega)
  have c3 : w.cell? ⟨4, 0, none⟩ = some (.iface 173 (.pointer (some (ad 3)))) := h.cell 3 (by omega)
  have c4 : w.cell? ⟨0, 0, none⟩ = some (.iface 173 (.pointer (some (ad 4)))) := h.cell 4 (by omega)
  have H := Lib.hid h
  clear h
  go_enter Tryd.func39, Tryd.ntmps39
  go_wp2_with fail
  refine (is_miss H.out 4 0 (by omega) (by omega) (by omega)).mono ?_
  rintro e w' ⟨rfl, rfl⟩
  go_wp2_with fail
  refine (is_miss H.out 4 1 (by omega) (by omega) (by omega)).mono ?_
  rintro e w' ⟨rfl, rfl⟩
  go_wp2_with fail
  refine (is_miss H.out 4 2 (by omega) (by omega) (by omega)).mono ?_
  rintro e w' ⟨rfl, rfl⟩
  go_wp2_with fail
  refine (is_miss H.out 4 3 (by omega) (by omega) (by omega)).mono ?_
  rintro e w' ⟨rfl, rfl⟩
  go_wp2_with fail
  refine (is_hit H.out 4).mono ?_
  rintro e w' ⟨rfl, rfl⟩
  go_wp2
  go_ret
  exact ⟨rfl, rfl⟩
set_option maxHeartbeats 1000000 in
theorem codeOf_5 {w : World} {ad : Nat → Addr} (h : EW 7 w ad) : Calls Tryd.prog 39 #[.iface 173 (.pointer (some (ad 5)))] w fun e w' => e = .returned (.int .i64 1) ∧ w = w' := by
  have c0 : w.cell? ⟨2, 0, none⟩ = some (.iface 173 (.pointer (some (ad 0)))) := h.cell 0 (by omega)
  have c1 : w.cell? ⟨3, 0, none⟩ = some (.iface 173 (.pointer (some (ad 1)))) := h.cell 1 (by omega)
  have c2 : w.cell? ⟨1, 0, none⟩ = some (.iface 173 (.pointer (some (ad 2)))) := h.cell 2 (by omega)
  have c3 : w.cell? ⟨4, 0, none⟩ = some (.iface 173 (.pointer (some (ad 3)))) := h.cell 3 (by omega)
  have c4 : w.cell? ⟨0, 0, none⟩ = some (.iface 173 (.pointer (some (ad 4)))) := h.cell 4 (by omega)
  have c6 : w.cell? ⟨5, 0, none⟩ = some (.iface 173 (.pointer (some (ad 6)))) := h.cell 6 (by omega)
  have H := Lib.hid h
  clear h
  go_enter Tryd.func39, Tryd.ntmps39
  go_wp2_with fail
  refine (is_miss H.out 5 0 (by omega) (by omega) (by omega)).mono ?_
  rintro e w' ⟨rfl, rfl⟩
  go_wp2_with fail
  refine (is_miss H.out 5 1 (by omega) (by omega) (by omega)).mono ?_
  rintro e w' ⟨rfl, rfl⟩
  go_wp2_with fail
  refine (is_miss H.out 5 2 (by omega) (by omega) (by omega)).mono ?_
  rintro e w' ⟨rfl, rfl⟩
  go_wp2_with fail
  refine (is_miss H.out 5 3 (by omega) (by omega) (by omega)).mono ?_
  rintro e w' ⟨rfl, rfl⟩
  go_wp2_with fail
  refine (is_miss H.out 5 4 (by omega) (by omega) (by omega)).mono ?_
  rintro e w' ⟨rfl, rfl⟩
  go_wp2_with fail
  refine (is_miss H.out 5 6 (by omega) (by omega) (by omega)).mono ?_
  rintro e w' ⟨rfl, rfl⟩
  go_wp2
  go_ret
  exact ⟨rfl, rfl⟩
set_option maxHeartbeats 1000000 in
theorem codeOf_6 {w : World} {ad : Nat → Addr} (h : EW 7 w ad) : Calls Tryd.prog 39 #[.iface 173 (.pointer (some (ad 6)))] w fun e w' => e = .returned (.int .i64 8) ∧ w = w' := by
  have c0 : w.cell? ⟨2, 0, none⟩ = some (.iface 173 (.pointer (some (ad 0)))) := h.cell 0 (by omega)
  have c1 : w.cell? ⟨3, 0, none⟩ = some (.iface 173 (.pointer (some (ad 1)))) := h.cell 1 (by omega)
  have c2 : w.cell? ⟨1, 0, none⟩ = some (.iface 173 (.pointer (some (ad 2)))) := h.cell 2 (by omega)
  have c3 : w.cell? ⟨4, 0, none⟩ = some (.iface 173 (.pointer (some (ad 3)))) := h.cell 3 (by omega)
  have c4 : w.cell? ⟨0, 0, none⟩ = some (.iface 173 (.pointer (some (ad 4)))) := h.cell 4 (by omega)
  have c6 : w.cell? ⟨5, 0, none⟩ = some (.iface 173 (.pointer (some (ad 6)))) := h.cell 6 (by omega)
  have H := Lib.hid h
  clear h
  go_enter Tryd.func39, Tryd.ntmps39
  go_wp2_with fail
  refine (is_miss H.out 6 0 (by omega) (by omega) (by omega)).mono ?_
  rintro e w' ⟨rfl, rfl⟩
  go_wp2_with fail
  refine (is_miss H.out 6 1 (by omega) (by omega) (by omega)).mono ?_
  rintro e w' ⟨rfl, rfl⟩
  go_wp2_with fail
  refine (is_miss H.out 6 2 (by omega) (by omega) (by omega)).mono ?_
  rintro e w' ⟨rfl, rfl⟩
  go_wp2_with fail
  refine (is_miss H.out 6 3 (by omega) (by omega) (by omega)).mono ?_
  rintro e w' ⟨rfl, rfl⟩
  go_wp2_with fail
  refine (is_miss H.out 6 4 (by omega) (by omega) (by omega)).mono ?_
  rintro e w' ⟨rfl, rfl⟩
  go_wp2_with fail
  refine (is_hit H.out 6).mono ?_
  rintro e w' ⟨rfl, rfl⟩
  go_wp2
  go_ret
  exact ⟨rfl, rfl⟩
end Go.Proofs.YtcdhmlalpjcidaaDoor
