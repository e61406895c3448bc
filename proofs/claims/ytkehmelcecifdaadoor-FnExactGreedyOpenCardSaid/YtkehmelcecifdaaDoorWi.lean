/-
  The contracts of WantedIn, of the model and of the program. Condition: the list reads as wants whose numbers fit their kinds; the sentinel errors lie as the row lists them (the program's).
-/
import Derived.Test.YtkehmelcecifdaaDoorOe
import Derived.Test.YtkehmelcecifdaaDoorMg9
namespace Go.Proofs.YtkehmelcecifdaaDoor
open Go.ChangeShapes Go.WideShapes Go.ChangeAt Go.RowKit Go.Deep

/-- The sum of the first k numbers. -/
def sumTo (xs : List Wnt) : Nat → Int
  | 0 => 0
  | k + 1 => sumTo xs k + (match xs[k]? with | some x => x.2 | none => 0)
theorem sumTo_succ {xs : List Wnt} {k : Nat} {x : Wnt} (h : xs[k]? = some x) : sumTo xs (k + 1) = sumTo xs k + x.2 := by simp [sumTo, h]
theorem sumTo_bound {xs : List Wnt} (hwf : ∀ x ∈ xs, wfW x) (k : Nat) : -(32768 * (k : Int)) ≤ sumTo xs k ∧ sumTo xs k ≤ 32768 * (k : Int) := by
  induction k with
  | zero => simp [sumTo]
  | succ k ih =>
    cases h : xs[k]? with
    | none => simp only [sumTo, h]; omega
    | some x =>
      have hw := (hwf x (List.mem_of_getElem? h)).2
      rw [sumTo_succ h]; omega
/-- What WantedIn answers. -/
def wiV (xs : List Wnt) : Value := if ordOk xs = true then .tuple #[.int .i64 (sumTo xs xs.length), .int .i64 0] else .tuple #[.int .i64 0, .int .i64 1]

set_option maxHeartbeats 1000000 in
theorem checkOrd_any (xs : List Wnt) (hwf : ∀ x ∈ xs, wfW x) (A : Option Addr) (c0 B c : Nat) (ad : Nat → Addr) (w : World) (hl : xs.length ≤ 1048576) (hr : Rd w w.heap.size wcells A xs) (hB : w.cell? ⟨B, 0, none⟩ = some (.slice A xs.length c0)) (hE : EW 7 w ad) :
    Calls Tryd.prog 55 #[.slice (some ⟨B, 0, none⟩) 1 c] w fun e w' => e = .returned (chkV ad (ordOk xs)) ∧ Below w.heap.size w w' := by
  have HR := Lib.hid hr
  have HW := Lib.hid hwf
  have HE := Lib.hid hE
  clear hr hwf hE
  go_enter Tryd.func55, Tryd.ntmps55
  go_wp2_with fail
  refine wp_loop_rounds 2 ?_
  rw [rounds_succ]
  go_wp2_with fail
  refine (validOrder_any xs HW.out A c0 _ hl HR.out).mono ?_
  rintro e w1 ⟨rfl, hb⟩
  have H4 := Lib.hid hb
  have hc : w1.cell? ⟨6, 0, none⟩ = some (.iface 228 (.pointer (some (ad 5)))) := ((HE.out).below H4.out (Nat.le_refl _)).cell 5 (by omega)
  clear hb
  cases hv : ordOk xs
  · have Hv := Lib.hid hv
    clear hv
    go_wp2
    go_ret
    exact ⟨by rw [Hv.out]; rfl, H4.out⟩
  · have Hv := Lib.hid hv
    clear hv
    go_wp2
    rw [rounds_succ]
    go_wp2
    go_ret
    exact ⟨by rw [Hv.out]; rfl, H4.out⟩

end Go.Proofs.YtkehmelcecifdaaDoor
