/-
  Small laws of operations of a region that draws. No condition of its own.
-/
import Derived.Test.YtkehmelcecifdaaDoorJ
import Derived.Test.YtkehmelcecifdaaDoorE
import Derived.Great.BuildSlice
import Derived.Test.YtkehmelcecifdaaDoorOe
import Derived.Test.YtkehmelcecifdaaDoorFlat
import Derived.WalkKit
import Derived.Laws.Rows
import Derived.Deep.RegionLaw
namespace Go.Proofs.YtkehmelcecifdaaDoor
open Go.ChangeShapes Go.WideShapes Go.ChangeAt Go.RowKit

/-- What a check of a crate answers. -/
def chkV (ad : Nat → Addr) (ok : Bool) : Value := if ok = true then .nilIface else .iface 228 (.pointer (some (ad 5)))

/-- A list of one crate, made for a call. -/
theorem wpList_oneCrate {P : Program} {ops : Array Oper} {rest : List Oper} {o : Oper} {a : Act} {w : World} {Q : Exit → Act → World → Prop} (hg : o.guard = none) (t e : TypeId) (x : Operand) (ho : o.op = .buildSlice t 1 #[(0, x)])
    (bs : List Bot) (hl : bs.length = 12) (hx : a.eval x = .agg (ccells bs).toArray) (hu : P.underlying t = some (.slice e)) (hsz : (P.info? e).map (·.size) = some 24) (hz : ((P.info? e).bind (·.zero)).map (fun z => z.cells.size) = some 24)
    (h : wpList P ops Q rest (a.put o.dst (.slice (some ⟨w.heap.size, 0, none⟩) 1 1)) (w.alloc (.cells (ccells bs).toArray e))) : wpList P ops Q (o :: rest) a w := by
  cases hie : P.info? e with
  | none => simp [hie] at hsz
  | some ie =>
    simp only [hie, Option.map_some, Option.some.injEq, Option.bind_some] at hsz hz
    cases hzz : ie.zero with
    | none => simp [hzz] at hz
    | some z =>
      refine wpList_buildSlice hg t e 1 _ ho _ ie z hu hie hzz (by rw [hsz]; omega) (by rw [hsz]; omega) ?_ h
      have hs : (Value.agg (ccells bs).toArray).cells.size = 24 := ccells_size bs hl
      have := Great.fill_whole (s := 24) (by omega) [Value.agg (ccells bs).toArray] ((Array.range (1 * ie.size)).map (z.cells[· % z.cells.size]!)) (by intro v hv; rw [List.mem_singleton.1 hv]; exact hs) (by simp [hsz])
      rw [hsz] at this ⊢
      simpa [hx, Value.cells] using this
theorem Tryd.zeroCr : ((Tryd.prog.info? 109).bind (·.zero)).map (fun z => z.cells.size) = some 24 := by kernel_rfl

end Go.Proofs.YtkehmelcecifdaaDoor

namespace Go.Proofs.YtkehmelcecifdaaDoor
open Go.ChangeShapes Go.WideShapes Go.ChangeAt Go.RowKit Go.Deep

/-- The sum of the first k numbers. -/
def sumToW (xs : List Wnt) : Nat → Int
  | 0 => 0
  | k + 1 => sumToW xs k + (match xs[k]? with | some x => x.2 | none => 0)
theorem sumToW_succ {xs : List Wnt} {k : Nat} {x : Wnt} (h : xs[k]? = some x) : sumToW xs (k + 1) = sumToW xs k + x.2 := by simp [sumToW, h]
theorem sumToW_bound {xs : List Wnt} (hwf : ∀ x ∈ xs, wfW x) (k : Nat) : -(32768 * (k : Int)) ≤ sumToW xs k ∧ sumToW xs k ≤ 32768 * (k : Int) := by
  induction k with
  | zero => simp [sumToW]
  | succ k ih =>
    cases h : xs[k]? with
    | none => simp only [sumToW, h]; omega
    | some x =>
      have hw := (hwf x (List.mem_of_getElem? h)).2
      rw [sumToW_succ h]; omega
/-- What WantedIn answers. -/
def wiV (xs : List Wnt) : Value := if ordOk xs = true then .tuple #[.int .i64 (sumToW xs xs.length), .int .i64 0] else .tuple #[.int .i64 0, .int .i64 1]

set_option maxHeartbeats 1000000 in
theorem checkOrd_any (xs : List Wnt) (hwf : ∀ x ∈ xs, wfW x) (A : Option Addr) (c0 B c : Nat) (ad : Nat → Addr) (w : World) (hl : xs.length ≤ 1048576) (hr : Rd w w.heap.size wcells A xs) (hB : w.cell? ⟨B, 0, none⟩ = some (.slice A xs.length c0)) (hE : EW 7 w ad) :
    Calls Tryd.prog 55 #[.slice (some ⟨B, 0, none⟩) 1 c] w fun e w' => e = .returned (chkV ad (ordOk xs)) ∧ Below w.heap.size w w' := by
  have HR := Lib.hid hr
  have HW := Lib.hid hwf
  have HE := Lib.hid hE
  clear hr hwf hE
  go_enter Tryd.func55, Tryd.ntmps55
  go_wp2_with fail
  refine wp_loop_rounds 2 ?_
  rw [rounds_succ]
  go_wp2_with fail
  refine (validOrder_any xs HW.out A c0 _ hl HR.out).mono ?_
  rintro e w1 ⟨rfl, hb⟩
  have H4 := Lib.hid hb
  have hc : w1.cell? ⟨6, 0, none⟩ = some (.iface 228 (.pointer (some (ad 5)))) := ((HE.out).below H4.out (Nat.le_refl _)).cell 5 (by omega)
  clear hb
  cases hv : ordOk xs
  · have Hv := Lib.hid hv
    clear hv
    go_wp2
    go_ret
    exact ⟨by rw [Hv.out]; rfl, H4.out⟩
  · have Hv := Lib.hid hv
    clear hv
    go_wp2
    rw [rounds_succ]
    go_wp2
    go_ret
    exact ⟨by rw [Hv.out]; rfl, H4.out⟩

end Go.Proofs.YtkehmelcecifdaaDoor

namespace Go.Proofs.YtkehmelcecifdaaDoor
open Go.ChangeShapes Go.WideShapes Go.ChangeAt Go.RowKit Go.Deep

end Go.Proofs.YtkehmelcecifdaaDoor
