/-
  The contracts of WantedIn, of the model and of the program. Condition: the list reads as wants whose numbers fit their kinds; the sentinel errors lie as the row lists them (the program's).
-/
import Derived.Test.YtjiihdljchaeiafDoorOe
import Derived.Test.YtjiihdljchaeiafDoorQ
namespace Go.Proofs.YtjiihdljchaeiafDoor
open Go.ChangeShapes Go.WideShapes Go.ChangeAt Go.RowKit Go.Deep

/-- The sum of the first k numbers. -/
def sumTo (xs : List Wnt) : Nat → Int
  | 0 => 0
  | k + 1 => sumTo xs k + (match xs[k]? with | some x => x.2 | none => 0)
theorem sumTo_succ {xs : List Wnt} {k : Nat} {x : Wnt} (h : xs[k]? = some x) : sumTo xs (k + 1) = sumTo xs k + x.2 := by simp [sumTo, h]
theorem sumTo_bound {xs : List Wnt} (hwf : ∀ x ∈ xs, wfW x) (k : Nat) : -(32768 * (k : Int)) ≤ sumTo xs k ∧ sumTo xs k ≤ 32768 * (k : Int) := by
  induction k with
  | zero => simp [sumTo]
  | succ k ih =>
    cases h : xs[k]? with
    | none => simp only [sumTo, h]; omega
    | some x =>
      have hw := (hwf x (List.mem_of_getElem? h)).2
      rw [sumTo_succ h]; omega
/-- What WantedIn answers. -/
def wiV (xs : List Wnt) : Value := if ordOk xs = true then .tuple #[.int .i64 (sumTo xs xs.length), .int .i64 0] else .tuple #[.int .i64 0, .int .i64 1]

set_option maxRecDepth 100000 in
set_option maxHeartbeats 1000000 in
theorem l02Sum_any (xs : List Wnt) (hwf : ∀ x ∈ xs, wfW x) (A : Option Addr) (c : Nat) (w : World) (hl : xs.length ≤ 1048576) (hr : Rd w w.heap.size wcells A xs) :
    Calls Tryd.prog 31 #[.slice A xs.length c] w fun e w' => e = .returned (.int .i64 (sumTo xs xs.length)) ∧ Below w.heap.size w w' := by
  have HR := Lib.hid hr
  have HW := Lib.hid hwf
  clear hr hwf
  go_enter Tryd.func31, Tryd.ntmps31
  go_wp2_with fail
  go_loopw [3, 4] (fun s i wr => ∃ (k : Nat), k ≤ xs.length ∧ i = .int .i64 k ∧ s = .int .i64 (sumTo xs k) ∧ Below w.heap.size w wr) (fun _ i _ => xs.length - (intOf i).toNat)
  case atStart => exact ⟨0, by omega, rfl, rfl, Below.refl _ _⟩
  case round =>
    obtain ⟨k, hk, rfl, rfl, hB⟩ := hrel
    have HB := Lib.hid hB
    clear hB
    by_cases hlt : k < xs.length
    · obtain ⟨⟨⟨k1, y1⟩, n1⟩, hx⟩ : ∃ x, xs[k]? = some x := ⟨_, List.getElem?_eq_getElem hlt⟩
      have hwx := HW.out _ (List.mem_of_getElem? hx)
      obtain ⟨b, o, rfl, hbl, hrow⟩ := (HR.out.below (Nat.le_refl _) HB.out).at_ wcells_length hx
      obtain ⟨e1, e2, e3⟩ := rowW hrow
      have hbd := sumTo_bound HW.out k
      have HX := Lib.hid hx
      have hk0 : (0 : Int) ≤ (k : Int) := Int.natCast_nonneg _
      have hk8 : (k : Int) < xs.length := by omega
      have hn1 : -32768 ≤ n1 := hwx.2.1
      have hn2 : n1 ≤ 32767 := hwx.2.2
      have hs1 : IntKind.i64.wrap (sumTo xs k + n1) = sumTo xs k + n1 := IntWalk.i64_in _ ⟨by omega, by omega⟩
      have hs2 : wrap64 (sumTo xs k + n1) = sumTo xs k + n1 := IntWalk.wrap64_in _ ⟨by omega, by omega⟩
      clear hx hwx hrow hbd
      go_wp2
      go_roundw
      case rel => exact ⟨k + 1, by omega, by go_num, by rw [sumTo_succ HX.out], HB.out⟩
      case measure => simp [intOf]; omega
    · obtain rfl : k = xs.length := by omega
      go_wp2
      go_ret
      exact ⟨rfl, HB.out⟩

theorem specWanted_any (xs : List Wnt) (hwf : ∀ x ∈ xs, wfW x) (A : Option Addr) (c : Nat) (w : World) (hl : xs.length ≤ 1048576) (hr : Rd w w.heap.size wcells A xs) :
    Calls Tryd.prog 15 #[.slice A xs.length c] w fun e w' => e = .returned (wiV xs) ∧ Below w.heap.size w w' := by
  have HR := Lib.hid hr
  have HW := Lib.hid hwf
  clear hr hwf
  go_enter Tryd.func15, Tryd.ntmps15
  go_wp2_with fail
  refine (l02Ok_any xs HW.out A c w hl HR.out).mono ?_
  rintro e w1 ⟨rfl, hb⟩
  have HB := Lib.hid hb
  clear hb
  cases ho : ordOk xs
  · go_wp2
    go_ret2
    exact ⟨by rw [wiV, ho]; rfl, HB.out⟩
  · go_wp2_with fail
    refine (l02Sum_any xs HW.out A c w1 hl (HR.out.keep HB.out)).mono ?_
    rintro e w2 ⟨rfl, hb⟩
    have HB2 : Hid (Below w.heap.size w w2) := HB.out.trans (hb.mono HB.out.size)
    clear hb
    go_wp2
    go_ret2
    exact ⟨by rw [wiV, ho]; rfl, HB2.out⟩

set_option maxHeartbeats 1000000 in
theorem checkOrd_any (xs : List Wnt) (hwf : ∀ x ∈ xs, wfW x) (A : Option Addr) (c0 B c : Nat) (ad : Nat → Addr) (w : World) (hl : xs.length ≤ 1048576) (hr : Rd w w.heap.size wcells A xs) (hB : w.cell? ⟨B, 0, none⟩ = some (.slice A xs.length c0)) (hE : EW 7 w ad) :
    Calls Tryd.prog 33 #[.slice (some ⟨B, 0, none⟩) 1 c] w fun e w' => e = .returned (chkV ad (ordOk xs)) ∧ Below w.heap.size w w' := by
  have HR := Lib.hid hr
  have HW := Lib.hid hwf
  have HE := Lib.hid hE
  clear hr hwf hE
  go_enter Tryd.func33, Tryd.ntmps33
  go_wp2_with fail
  refine wp_loop_rounds 2 ?_
  rw [rounds_succ]
  go_wp2_with fail
  refine (validOrder_any xs HW.out A c0 _ hl HR.out).mono ?_
  rintro e w1 ⟨rfl, hb⟩
  have H4 := Lib.hid hb
  have hc : w1.cell? ⟨0, 0, none⟩ = some (.iface 100 (.pointer (some (ad 5)))) := ((HE.out).below H4.out (Nat.le_refl _)).cell 5 (by omega)
  clear hb
  cases hv : ordOk xs
  · have Hv := Lib.hid hv
    clear hv
    go_wp2
    go_ret
    exact ⟨by rw [Hv.out]; rfl, H4.out⟩
  · have Hv := Lib.hid hv
    clear hv
    go_wp2
    rw [rounds_succ]
    go_wp2
    go_ret
    exact ⟨by rw [Hv.out]; rfl, H4.out⟩

set_option maxRecDepth 100000 in
set_option maxHeartbeats 1000000 in
theorem implWanted_any (xs : List Wnt) (hwf : ∀ x ∈ xs, wfW x) (A : Option Addr) (c : Nat) (ad : Nat → Addr) (w : World) (hl : xs.length ≤ 1048576) (hr : Rd w w.heap.size wcells A xs) (hE : EW 7 w ad) :
    Calls Tryd.prog 17 #[.slice A xs.length c] w fun e w' => e = .returned (wiV xs) ∧ Below w.heap.size w w' := by
  have HR := Lib.hid hr
  have HW := Lib.hid hwf
  have HE := Lib.hid hE
  clear hr hwf hE
  go_enter Tryd.func17, Tryd.ntmps17
  go_wp2_with fail
  have hA : Below w.heap.size w (w.alloc (.cells #[.slice A xs.length c] 41)) := (Below.refl _ w).alloc (Nat.le_refl _) _
  refine (checkOrd_any xs HW.out A c w.heap.size _ ad _ hl (HR.out.keep hA) (new_cell w _ _).1 (HE.out.below hA (Nat.le_refl _))).mono ?_
  rintro e w1 ⟨rfl, hb⟩
  have HB : Hid (Below w.heap.size w w1) := hA.trans (hb.mono hA.size)
  clear hb hA
  cases ho : ordOk xs
  · have Ho := Lib.hid ho
    clear ho
    simp only [chkV, Bool.false_eq_true, if_false]
    go_wp2_with fail
    refine (codeOf_5 (HE.out.below HB.out (Nat.le_refl _))).mono ?_
    rintro e w2 ⟨rfl, rfl⟩
    go_wp2
    go_ret2
    exact ⟨by rw [wiV, Ho.out]; rfl, HB.out⟩
  · have Ho := Lib.hid ho
    clear ho
    simp only [chkV, if_true]
    go_wp2_with fail
    go_loopw [5, 17] (fun s i wr => ∃ (k : Nat), k ≤ xs.length ∧ i = .int .i64 k ∧ s = .int .i64 (sumTo xs k) ∧ Below w.heap.size w wr) (fun _ i _ => xs.length - (intOf i).toNat)
    case atStart => exact ⟨0, by omega, rfl, rfl, HB.out⟩
    case round =>
      clear HB
      obtain ⟨k, hk, rfl, rfl, hB⟩ := hrel
      have HB := Lib.hid hB
      clear hB
      by_cases hlt : k < xs.length
      · obtain ⟨⟨⟨k1, y1⟩, n1⟩, hx⟩ : ∃ x, xs[k]? = some x := ⟨_, List.getElem?_eq_getElem hlt⟩
        have hwx := HW.out _ (List.mem_of_getElem? hx)
        obtain ⟨b, o, rfl, hbl, hrow⟩ := (HR.out.below (Nat.le_refl _) HB.out).at_ wcells_length hx
        obtain ⟨e1, e2, e3⟩ := rowW hrow
        have hbd := sumTo_bound HW.out k
        have HX := Lib.hid hx
        have hk0 : (0 : Int) ≤ (k : Int) := Int.natCast_nonneg _
        have hk8 : (k : Int) < xs.length := by omega
        have hn1 : -32768 ≤ n1 := hwx.2.1
        have hn2 : n1 ≤ 32767 := hwx.2.2
        have hs1 : IntKind.i64.wrap (sumTo xs k + n1) = sumTo xs k + n1 := IntWalk.i64_in _ ⟨by omega, by omega⟩
        have hs2 : wrap64 (sumTo xs k + n1) = sumTo xs k + n1 := IntWalk.wrap64_in _ ⟨by omega, by omega⟩
        clear hx hwx hrow hbd
        go_wp2
        go_roundw
        case rel => exact ⟨k + 1, by omega, by go_num, by rw [sumTo_succ HX.out], HB.out.alloc HB.out.size _⟩
        case measure => simp [intOf]; omega
      · obtain rfl : k = xs.length := by omega
        go_wp2
        go_ret2
        exact ⟨by rw [wiV, Ho.out]; rfl, HB.out⟩
end Go.Proofs.YtjiihdljchaeiafDoor
