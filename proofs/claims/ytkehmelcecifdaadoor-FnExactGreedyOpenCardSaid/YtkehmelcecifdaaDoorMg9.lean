/-
  The contracts of checkBottle and of firstError at two errors; a list of one crate, made in a region. Condition: the sentinel errors lie as the row lists them.
-/
import Derived.Test.YtkehmelcecifdaaDoorJ
import Derived.Test.YtkehmelcecifdaaDoorE
import Derived.Great.BuildSlice
import Derived.Test.YtkehmelcecifdaaDoorMg4
import Derived.Deep.RegionHeld3
namespace Go.Proofs.YtkehmelcecifdaaDoor
open Go.ChangeShapes Go.WideShapes Go.ChangeAt Go.RowKit

/-- What a check of a crate answers. -/
def chkV (ad : Nat → Addr) (ok : Bool) : Value := if ok = true then .nilIface else .iface 228 (.pointer (some (ad 5)))

/-- A list of one crate, made for a call. -/
theorem wpList_oneCrate {P : Program} {ops : Array Oper} {rest : List Oper} {o : Oper} {a : Act} {w : World} {Q : Exit → Act → World → Prop} (hg : o.guard = none) (t e : TypeId) (x : Operand) (ho : o.op = .buildSlice t 1 #[(0, x)])
    (bs : List Bot) (hl : bs.length = 12) (hx : a.eval x = .agg (ccells bs).toArray) (hu : P.underlying t = some (.slice e)) (hsz : (P.info? e).map (·.size) = some 24) (hz : ((P.info? e).bind (·.zero)).map (fun z => z.cells.size) = some 24)
    (h : wpList P ops Q rest (a.put o.dst (.slice (some ⟨w.heap.size, 0, none⟩) 1 1)) (w.alloc (.cells (ccells bs).toArray e))) : wpList P ops Q (o :: rest) a w := by
  cases hie : P.info? e with
  | none => simp [hie] at hsz
  | some ie =>
    simp only [hie, Option.map_some, Option.some.injEq, Option.bind_some] at hsz hz
    cases hzz : ie.zero with
    | none => simp [hzz] at hz
    | some z =>
      refine wpList_buildSlice hg t e 1 _ ho _ ie z hu hie hzz (by rw [hsz]; omega) (by rw [hsz]; omega) ?_ h
      have hs : (Value.agg (ccells bs).toArray).cells.size = 24 := ccells_size bs hl
      have := Great.fill_whole (s := 24) (by omega) [Value.agg (ccells bs).toArray] ((Array.range (1 * ie.size)).map (z.cells[· % z.cells.size]!)) (by intro v hv; rw [List.mem_singleton.1 hv]; exact hs) (by simp [hsz])
      rw [hsz] at this ⊢
      simpa [hx, Value.cells] using this
theorem Tryd.zeroCr : ((Tryd.prog.info? 109).bind (·.zero)).map (fun z => z.cells.size) = some 24 := by kernel_rfl

end Go.Proofs.YtkehmelcecifdaaDoor

namespace Go.Proofs.YtkehmelcecifdaaDoor
open Go.ChangeShapes Go.WideShapes Go.ChangeAt Go.RowKit Go.Deep

/-- What a check of a bottle answers. -/
def btV (ad : Nat → Addr) (b : Bot) : Value := if vB b = true then .nilIface else errV (ad 5)
/-- The first of the checks. -/
theorem first2_hit (a : Addr) (B c : Nat) (w : World) (h0 : w.cell? ⟨B, 0, none⟩ = some (.iface 228 (.pointer (some a)))) :
    Calls Tryd.prog 54 #[.slice (some ⟨B, 0, none⟩) 2 c] w fun e w' => e = .returned (.iface 228 (.pointer (some a))) ∧ w = w' := by
  go_enter Tryd.func54, Tryd.ntmps54
  go_wp2
  refine wp_loop_rounds 3 ?_
  rw [rounds_succ]
  go_wp2
  go_ret
  exact ⟨rfl, rfl⟩
theorem first2_second (a : Addr) (B c : Nat) (w : World) (h0 : w.cell? ⟨B, 0, none⟩ = some .nilIface) (h1 : w.cell? ⟨B, 1, none⟩ = some (.iface 228 (.pointer (some a)))) :
    Calls Tryd.prog 54 #[.slice (some ⟨B, 0, none⟩) 2 c] w fun e w' => e = .returned (.iface 228 (.pointer (some a))) ∧ w = w' := by
  go_enter Tryd.func54, Tryd.ntmps54
  go_wp2
  refine wp_loop_rounds 3 ?_
  rw [rounds_succ]
  go_wp2
  rw [rounds_succ]
  go_wp2
  go_ret
  exact ⟨rfl, rfl⟩
theorem first2_none (B c : Nat) (w : World) (h0 : w.cell? ⟨B, 0, none⟩ = some .nilIface) (h1 : w.cell? ⟨B, 1, none⟩ = some .nilIface) :
    Calls Tryd.prog 54 #[.slice (some ⟨B, 0, none⟩) 2 c] w fun e w' => e = .returned .nilIface ∧ w = w' := by
  go_enter Tryd.func54, Tryd.ntmps54
  go_wp2
  refine wp_loop_rounds 3 ?_
  rw [rounds_succ]
  go_wp2
  rw [rounds_succ]
  go_wp2
  rw [rounds_succ]
  go_wp2
  go_ret
  exact ⟨rfl, rfl⟩
theorem CBlk.range {w : World} {B : Nat} {t : TypeId} {X : List Bot} (h : CBlk w B t X) : w.rangeAt B 0 (ccells X) := fun j v hv => by
  rw [Nat.zero_add, h.cell j]; exact hv

theorem wp_oneCrate {P : Program} {o : Oper} {a : Act} {w : World} {K : Act → World → Prop} {Q : Exit → Act → World → Prop} (t e : TypeId) (x : Operand) (ho : o.op = .buildSlice t 1 #[(0, x)])
    (bs : List Bot) (hl : bs.length = 12) (hx : a.eval x = .agg (ccells bs).toArray) (hu : P.underlying t = some (.slice e)) (hsz : (P.info? e).map (·.size) = some 24) (hz : ((P.info? e).bind (·.zero)).map (fun z => z.cells.size) = some 24)
    (h : K (a.put o.dst (.slice (some ⟨w.heap.size, 0, none⟩) 1 1)) (w.alloc (.cells (ccells bs).toArray e))) : Oper.wp P o a w K Q := by
  cases hie : P.info? e with
  | none => simp [hie] at hsz
  | some ie =>
    simp only [hie, Option.map_some, Option.some.injEq, Option.bind_some] at hsz hz
    cases hzz : ie.zero with
    | none => simp [hzz] at hz
    | some z =>
      refine wp_buildSlice t e 1 _ ho _ ie z hu hie hzz (by rw [hsz]; omega) (by rw [hsz]; omega) ?_ h
      have hs : (Value.agg (ccells bs).toArray).cells.size = 24 := ccells_size bs hl
      have := Great.fill_whole (s := 24) (by omega) [Value.agg (ccells bs).toArray] ((Array.range (1 * ie.size)).map (z.cells[· % z.cells.size]!)) (by intro v hv; rw [List.mem_singleton.1 hv]; exact hs) (by simp [hsz])
      rw [hsz] at this ⊢
      simpa [hx, Value.cells] using this
end Go.Proofs.YtkehmelcecifdaaDoor
