/-
  The contract of the closure that movedAll defers: in a frame that panics with a move that cannot be, and in one that returns. No condition but that the error's cell is there.
-/
import Derived.Test.YtaigimdehlclfaaDoorMq
import Derived.Tactics
import Derived.Tactics2
import Derived.Defers
import Derived.Recover
import Derived.Laws.Pointers
namespace Go.Proofs.YtaigimdehlclfaaDoor
open Go.ChangeShapes Go.WideShapes Go.ChangeAt Go.RowKit Go.Deep

theorem assert_nil (w : World) : (Instr.typeAssert .nilIface 20 65 true).run Tryd.prog w = .ok (.tuple #[.nilIface, .bool false]) w := by kernel_rfl
theorem assert_bad (v : Value) (w : World) : (Instr.typeAssert (.iface 81 v) 20 65 true).run Tryd.prog w = .ok (.tuple #[.iface 81 v, .bool true]) w := by kernel_rfl

theorem meth_bad (v : Value) (w : World) : (method 231 81 (.agg #[v]) "loop.example/g01353/impl.reason").run Tryd.prog w = .ok (57, .agg #[v]) w := by kernel_rfl
theorem reason_any (t : TypeId) (a : Addr) (w : World) : Calls Tryd.prog 57 #[.agg #[.iface t (.pointer (some a))]] w fun e w' => e = .returned (.iface t (.pointer (some a))) ∧ Below w.heap.size w w' := by
  go_enter Tryd.func57, Tryd.ntmps57
  go_wp2
  go_ret
  exact ⟨rfl, (by repeat (first | exact Below.refl _ _ | refine Below.drew ?_ | refine Below.alloc ?_ (by simp <;> omega) _ | refine Below.setCell ?_ (by simp <;> omega) _))⟩

set_option maxRecDepth 100000 in
theorem caught_idle (p : Addr) (w : World) :
    CallsD Tryd.prog 27 #[.pointer (some p)] .returning w fun e u' w' => e = .returned (.tuple #[]) ∧ u' = .returning ∧ w' = w := by
  refine callsD_of_wpS Tryd.func27 rfl fun c₀ cs hu => ?_
  have ht : #[Value.pointer (some p)] ++ Array.replicate (Tryd.f27.ntmps - #[Value.pointer (some p)].size) undef = #[.pointer (some p), undef, undef, undef, undef, undef, undef, undef, undef, undef, undef] := by kernel_rfl
  rw [ht]
  clear ht
  apply wpS_seq
  apply wpS_region
  simp [wpOpsS, go_sem, recoverD, hu, assert_nil, Exit.thenS]
  refine wpS_of_wp ?_
  go_wp2_with fail
  cases c₀
  simp_all [bodyPostS, results, Tryd.results27]
set_option maxRecDepth 100000 in
theorem caught_panic (p : Addr) (ad : Nat → Addr) (c : Int) (k : Nat) (hk : mvE ad c = .iface 93 (.pointer (some (ad k)))) (older : List PanicEntry) (w : World) (hp : p.block < w.heap.size) (hc : w.cell? p = some .nilIface) (hz : w.frozen? p = false) :
    CallsD Tryd.prog 27 #[.pointer (some p)] (.panicking ({ v := badV ad c, recovered := false } :: older)) w fun e u' w' => e = .returned (.tuple #[]) ∧ u' = .panicking ({ v := badV ad c, recovered := true } :: older) ∧ ∃ w1, Below w.heap.size w w1 ∧ w' = w1.setCell p (mvE ad c) := by
  refine callsD_of_wpS Tryd.func27 rfl fun c₀ cs hu => ?_
  have ht : #[Value.pointer (some p)] ++ Array.replicate (Tryd.f27.ntmps - #[Value.pointer (some p)].size) undef = #[.pointer (some p), undef, undef, undef, undef, undef, undef, undef, undef, undef, undef] := by kernel_rfl
  rw [ht]
  clear ht
  unfold badV at hu ⊢
  rw [hk] at hu ⊢
  apply wpS_seq
  apply wpS_region
  simp [wpOpsS, go_sem, recoverD, hu, assert_bad, Exit.thenS]
  refine wpS_of_wp ?_
  have hmd := fun v w => meth_bad v w
  go_wp2_with fail
  refine (reason_any 93 (ad k) _).mono ?_
  rintro e w2 ⟨rfl, hb2⟩
  have hc2 := (hb2.cell hp).trans hc
  have hz2 := (hb2.frozen hp).trans hz
  go_wp2_with fail
  refine ⟨rfl, _, rfl, _, results_none rfl _ _ _, rfl, rfl, _, hb2, rfl⟩
end Go.Proofs.YtaigimdehlclfaaDoor
