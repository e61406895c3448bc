/-
  The contracts of CountOf, of the model and of the program. Condition: the list reads as crates whose numbers fit their kinds; the sentinel errors lie as the row lists them (the program's).
-/
import Derived.Test.YtkehmelcecifdaaDoorVs
import Derived.Test.YtkehmelcecifdaaDoorEz
import Derived.Test.YtkehmelcecifdaaDoorKn
namespace Go.Proofs.YtkehmelcecifdaaDoor
open Go.ChangeShapes Go.WideShapes Go.ChangeAt Go.RowKit Go.Deep

theorem checkStack_any (xs : List Crt) (A : Option Addr) (c : Nat) (ad : Nat → Addr) (w : World) (hl : xs.length ≤ 1048576) (hr : Rd w w.heap.size kcells A xs) (hE : EW 7 w ad) :
    Calls Tryd.prog 93 #[.slice A xs.length c] w fun e w' => e = .returned (erV ad 5 (okS xs)) ∧ Below w.heap.size w w' := by
  have HE := Lib.hid hE
  have HR := Lib.hid hr
  clear hE hr
  go_enter Tryd.func93, Tryd.ntmps93
  go_wp2_with fail
  refine (validStack_any xs A c _ hl HR.out).mono ?_
  rintro e w1 ⟨rfl, hb⟩
  have HB := Lib.hid hb
  have c5 : w1.cell? ⟨6, 0, none⟩ = some (.iface 228 (.pointer (some (ad 5)))) := (HE.out.below hb (Nat.le_refl _)).cell 5 (by omega)
  clear hb
  cases hv : okS xs
  · have Hv := Lib.hid hv
    clear hv
    go_wp2
    go_ret
    exact ⟨by rw [Hv.out]; rfl, HB.out⟩
  · have Hv := Lib.hid hv
    clear hv
    go_wp2
    go_ret
    exact ⟨by rw [Hv.out]; rfl, HB.out⟩

end Go.Proofs.YtkehmelcecifdaaDoor

namespace Go.Proofs.YtkehmelcecifdaaDoor
open Go.ChangeShapes Go.WideShapes Go.ChangeAt Go.RowKit Go.Deep
open Go.Maps (Keyed)

/-- What CountOf answers. -/
def coOk (xs : List Crt) (b : Bot) : Bool := okS xs && vB b
def coN (xs : List Crt) (b : Bot) : Int := if coOk xs b = true then (cntAll xs b : Nat) else 0
def coC (xs : List Crt) (b : Bot) : Int := if coOk xs b = true then 0 else 1
def coV (xs : List Crt) (b : Bot) : Value := .tuple #[.int .i64 (coN xs b), .int .i64 (coC xs b)]
theorem co_bad {xs : List Crt} {b : Bot} (h : coOk xs b = false) : coN xs b = 0 ∧ coC xs b = 1 := by simp [coN, coC, h]
theorem co_ok {xs : List Crt} {b : Bot} (h : coOk xs b = true) : coN xs b = (cntAll xs b : Nat) ∧ coC xs b = 0 := by
  unfold coN coC; rw [if_pos h, if_pos h]; exact ⟨rfl, rfl⟩
/-- How often a bottle is in the first k places. -/
def mulK (X : List Bot) (b : Bot) (k : Nat) : Nat := ((allB X k).filter fun y => decide (y = b)).length
theorem mulK_le (X : List Bot) (b : Bot) (k : Nat) : mulK X b k ≤ k := Nat.le_trans (List.length_filter_le _ _) (allB_length X k)
theorem mulK_hit {X : List Bot} {b : Bot} {k : Nat} (h : X[k]? = some b) (he : eB b = false) : mulK X b (k + 1) = mulK X b k + 1 := by simp [mulK, allB_yes h he]
theorem mulK_miss {X : List Bot} {b y : Bot} {k : Nat} (h : X[k]? = some y) (hn : y ≠ b) : mulK X b (k + 1) = mulK X b k := by
  cases he : eB y
  · simp [mulK, allB_yes h he, hn]
  · rw [mulK, mulK, allB_no h he]
theorem mulK_all (x : Crt) (b : Bot) : mulK x.1 b 12 = mult x b := rfl
theorem vB_eB {b : Bot} (h : vB b = true) : eB b = false := by
  simp only [vB, Bool.and_eq_true, decide_eq_true_eq] at h
  simp [eB]; omega
def cntTo (xs : List Crt) (b : Bot) (k : Nat) : Nat := ((xs.take k).map fun x => mult x b).sum
theorem cntTo_succ {xs : List Crt} {b : Bot} {k : Nat} {x : Crt} (h : xs[k]? = some x) : cntTo xs b (k + 1) = cntTo xs b k + mult x b := by
  obtain ⟨hlt, he⟩ := List.getElem?_eq_some_iff.1 h
  simp [cntTo, List.take_succ_eq_append_getElem hlt, he]
theorem cntTo_all (xs : List Crt) (b : Bot) : cntTo xs b xs.length = cntAll xs b := by rw [cntTo, List.take_length, cntAll]
theorem cntTo_le (xs : List Crt) (b : Bot) (k : Nat) : cntTo xs b k ≤ 12 * k := by
  have := cntAll_le (xs.take k) b
  have h2 : (xs.take k).length ≤ k := by rw [List.length_take]; omega
  have h3 : cntTo xs b k = cntAll (xs.take k) b := rfl
  omega

end Go.Proofs.YtkehmelcecifdaaDoor
