/-
  The contracts of StoredIn and FreeIn, of the model and of the program. Condition: the rack reads as lists of things that are stored, whose numbers fit their kinds, not more than 1048576; the sentinel errors lie as the row lists them (the program's).
-/
import Derived.Test.YtpjmkcgofmfdaacDoorRv
namespace Go.Proofs.YtpjmkcgofmfdaacDoor
open Go.ChangeShapes Go.WideShapes Go.ChangeAt Go.RowKit Go.Deep

/-- The code of a function of a rack alone; a number that it tells. -/
def rkC (xss : List (List Wnt)) : Int := if rkOk xss = true then 0 else 1
def rkN (xss : List (List Wnt)) (n : Int) : Int := if rkOk xss = true then n else 0
theorem rkC_yes {xss : List (List Wnt)} (h : rkOk xss = true) : rkC xss = 0 := by rw [rkC, if_pos h]
theorem rkC_no {xss : List (List Wnt)} (h : rkOk xss = false) : rkC xss = 1 := by simp [rkC, h]
theorem rkN_yes {xss : List (List Wnt)} (h : rkOk xss = true) (n : Int) : rkN xss n = n := by rw [rkN, if_pos h]
theorem rkN_no {xss : List (List Wnt)} (h : rkOk xss = false) (n : Int) : rkN xss n = 0 := by simp [rkN, h]

set_option maxHeartbeats 1000000 in
theorem l04Sum_any (xss : List (List Wnt)) (A : Option Addr) (c : Nat) (w : World) (hl : xss.length ≤ 1048576) (hs : sumL xss ≤ 1048576) (hr : RdN w w.heap.size wcells A xss) :
    Calls Tryd.prog 24 #[.slice A xss.length c] w fun e w' => e = .returned (.int .i64 (sumL xss)) ∧ w = w' := by
  have HR := Lib.hid hr
  clear hr
  go_enter Tryd.func24, Tryd.ntmps24
  go_wp2_with fail
  go_loop [3, 4] (fun s i => ∃ k : Nat, k ≤ xss.length ∧ i = .int .i64 k ∧ s = .int .i64 (sumTo xss k)) (fun _ i => xss.length - (intOf i).toNat)
  case atStart => exact ⟨0, by omega, rfl, rfl⟩
  case round =>
    obtain ⟨k, hk, rfl, rfl⟩ := hrel
    by_cases hlt : k < xss.length
    · obtain ⟨xs, hxs⟩ : ∃ x, xss[k]? = some x := ⟨_, List.getElem?_eq_getElem hlt⟩
      obtain ⟨b, o, a, c', rfl, hb, hc, -⟩ := HR.out.at_ hxs
      have hk0 : (0 : Int) ≤ (k : Int) := Int.natCast_nonneg _
      have hk8 : (k : Int) < xss.length := by omega
      have hsu := sumTo_succ hxs
      have hle := sumTo_le xss (k + 1)
      have e1 : ((sumTo xss (k + 1) : Nat) : Int) = (sumTo xss k : Int) + xs.length := by omega
      have hw1 : IntKind.i64.wrap ((sumTo xss k : Int) + xs.length) = (sumTo xss k : Int) + xs.length := IntWalk.i64_in _ ⟨by omega, by omega⟩
      have hw2 : wrap64 ((sumTo xss k : Int) + xs.length) = (sumTo xss k : Int) + xs.length := IntWalk.wrap64_in _ ⟨by omega, by omega⟩
      have E1 := Lib.hid e1
      clear hxs hsu hle e1
      go_wp2
      go_round
      case rel => exact ⟨k + 1, by omega, by go_num, by rw [E1.out]⟩
      case measure => simp [intOf]; omega
    · obtain rfl : k = xss.length := by omega
      go_wp2
      go_ret
      exact ⟨by (rw [← sumTo_all]; first | done | rfl), rfl⟩
set_option maxHeartbeats 1000000 in
theorem storedIn_any (xss : List (List Wnt)) (A : Option Addr) (c : Nat) (w : World) (hl : xss.length ≤ 1048576) (hs : sumL xss ≤ 1048576) (hr : RdN w w.heap.size wcells A xss) :
    Calls Tryd.prog 27 #[.slice A xss.length c] w fun e w' => e = .returned (.int .i64 (sumL xss)) ∧ w = w' := by
  have HR := Lib.hid hr
  clear hr
  go_enter Tryd.func27, Tryd.ntmps27
  go_wp2_with fail
  go_loop [3, 8] (fun s i => ∃ k : Nat, k ≤ xss.length ∧ i = .int .i64 k ∧ s = .int .i64 (sumTo xss k)) (fun _ i => xss.length - (intOf i).toNat)
  case atStart => exact ⟨0, by omega, rfl, rfl⟩
  case round =>
    obtain ⟨k, hk, rfl, rfl⟩ := hrel
    by_cases hlt : k < xss.length
    · obtain ⟨xs, hxs⟩ : ∃ x, xss[k]? = some x := ⟨_, List.getElem?_eq_getElem hlt⟩
      obtain ⟨b, o, a, c', rfl, hb, hc, -⟩ := HR.out.at_ hxs
      have hk0 : (0 : Int) ≤ (k : Int) := Int.natCast_nonneg _
      have hk8 : (k : Int) < xss.length := by omega
      have hsu := sumTo_succ hxs
      have hle := sumTo_le xss (k + 1)
      have e1 : ((sumTo xss (k + 1) : Nat) : Int) = (sumTo xss k : Int) + xs.length := by omega
      have hw1 : IntKind.i64.wrap ((sumTo xss k : Int) + xs.length) = (sumTo xss k : Int) + xs.length := IntWalk.i64_in _ ⟨by omega, by omega⟩
      have hw2 : wrap64 ((sumTo xss k : Int) + xs.length) = (sumTo xss k : Int) + xs.length := IntWalk.wrap64_in _ ⟨by omega, by omega⟩
      have E1 := Lib.hid e1
      clear hxs hsu hle e1
      go_wp2
      go_round
      case rel => exact ⟨k + 1, by omega, by go_num, by rw [E1.out]⟩
      case measure => simp [intOf]; omega
    · obtain rfl : k = xss.length := by omega
      go_wp2
      go_ret
      exact ⟨by (rw [← sumTo_all]; first | done | rfl), rfl⟩

set_option maxHeartbeats 1000000 in
theorem checkRack_any (xss : List (List Wnt)) (A : Option Addr) (c : Nat) (ad : Nat → Addr) (w : World) (hl : xss.length ≤ 1048576) (hx : ∀ xs ∈ xss, xs.length ≤ 1048576) (hr : RdN w w.heap.size wcells A xss) (hE : EW 7 w ad) :
    Calls Tryd.prog 25 #[.slice A xss.length c] w fun e w' => e = .returned (erV ad 5 (rkOk xss)) ∧ Below w.heap.size w w' := by
  have HR := Lib.hid hr
  have HX := Lib.hid hx
  have HE := Lib.hid hE
  clear hr hx hE
  go_enter Tryd.func25, Tryd.ntmps25
  go_wp2_with fail
  refine (validRack_any xss A c ad w hl HX.out HR.out HE.out.i5).mono ?_
  rintro e w1 ⟨rfl, hb⟩
  have HB := Lib.hid hb
  have c0 : w1.cell? ⟨0, 0, none⟩ = some (.iface 91 (.pointer (some (ad 5)))) := ((HE.out).below HB.out (Nat.le_refl _)).cell 5 (by omega)
  clear hb
  cases hv : rkOk xss
  · have HV := Lib.hid hv
    clear hv
    go_wp2
    go_ret
    exact ⟨by (rw [HV.out]; first | done | rfl), HB.out⟩
  · have HV := Lib.hid hv
    clear hv
    go_wp2
    go_ret
    exact ⟨by (rw [HV.out]; first | done | rfl), HB.out⟩
theorem erV5_no (ad : Nat → Addr) : erV ad 5 false = .iface 91 (.pointer (some (ad 5))) := rfl
theorem erV_yes (ad : Nat → Addr) (k : Nat) : erV ad k true = .nilIface := rfl

set_option maxHeartbeats 1000000 in
theorem specStored_any (xss : List (List Wnt)) (hwf : ∀ xs ∈ xss, ∀ x ∈ xs, wfW x) (A : Option Addr) (c : Nat) (w : World) (hl : xss.length ≤ 1048576) (hs : sumL xss ≤ 1048576) (hx : ∀ xs ∈ xss, xs.length ≤ 1048576) (hr : RdN w w.heap.size wcells A xss) :
    Calls Tryd.prog 12 #[.slice A xss.length c] w fun e w' => e = .returned (.tuple #[.int .i64 (rkN xss (sumL xss)), .int .i64 (rkC xss)]) ∧ Below w.heap.size w w' := by
  have HR := Lib.hid hr
  have HW := Lib.hid hwf
  have HX := Lib.hid hx
  clear hr hwf hx
  go_enter Tryd.func12, Tryd.ntmps12
  go_wp2_with fail
  refine (l04Ok_any xss HW.out A c w hl HX.out HR.out).mono ?_
  rintro e w1 ⟨rfl, hb⟩
  have HB := Lib.hid hb
  clear hb
  cases hv : rkOk xss
  · have E1 := Lib.hid (rkN_no hv (sumL xss))
    have E2 := Lib.hid (rkC_no hv)
    clear hv
    go_wp2
    go_ret2
    exact ⟨by (rw [E1.out, E2.out]; first | done | rfl), HB.out⟩
  · have E1 := Lib.hid (rkN_yes hv (sumL xss))
    have E2 := Lib.hid (rkC_yes hv)
    clear hv
    go_wp2_with fail
    refine (l04Sum_any xss A c _ hl hs (HR.out.keep HB.out)).mono ?_
    rintro e w2 ⟨rfl, rfl⟩
    go_wp2
    go_ret2
    exact ⟨by (rw [E1.out, E2.out]; first | done | rfl), HB.out⟩

set_option maxHeartbeats 1000000 in
theorem implStored_any (xss : List (List Wnt)) (A : Option Addr) (c : Nat) (ad : Nat → Addr) (w : World) (hl : xss.length ≤ 1048576) (hs : sumL xss ≤ 1048576) (hx : ∀ xs ∈ xss, xs.length ≤ 1048576) (hr : RdN w w.heap.size wcells A xss) (hE : EW 7 w ad) :
    Calls Tryd.prog 13 #[.slice A xss.length c] w fun e w' => e = .returned (.tuple #[.int .i64 (rkN xss (sumL xss)), .int .i64 (rkC xss)]) ∧ Below w.heap.size w w' := by
  have HR := Lib.hid hr
  have HX := Lib.hid hx
  have HE := Lib.hid hE
  clear hr hx hE
  go_enter Tryd.func13, Tryd.ntmps13
  go_wp2_with fail
  refine (checkRack_any xss A c ad w hl HX.out HR.out HE.out).mono ?_
  rintro e w1 ⟨rfl, hb⟩
  have HB := Lib.hid hb
  clear hb
  cases hv : rkOk xss
  · have E1 := Lib.hid (rkN_no hv (sumL xss))
    have E2 := Lib.hid (rkC_no hv)
    rw [erV5_no]
    clear hv
    go_wp2_with fail
    refine (codeOf_5 (HE.out.below HB.out (Nat.le_refl _))).mono ?_
    rintro e w2 ⟨rfl, rfl⟩
    go_wp2
    go_ret2
    exact ⟨by (rw [E1.out, E2.out]; first | done | rfl), HB.out⟩
  · have E1 := Lib.hid (rkN_yes hv (sumL xss))
    have E2 := Lib.hid (rkC_yes hv)
    rw [erV_yes]
    clear hv
    go_wp2_with fail
    refine (storedIn_any xss A c _ hl hs (HR.out.keep HB.out)).mono ?_
    rintro e w2 ⟨rfl, rfl⟩
    go_wp2
    go_ret2
    exact ⟨by (rw [E1.out, E2.out]; first | done | rfl), HB.out⟩

set_option maxHeartbeats 1000000 in
theorem specFree_any (xss : List (List Wnt)) (hwf : ∀ xs ∈ xss, ∀ x ∈ xs, wfW x) (A : Option Addr) (c : Nat) (w : World) (hl : xss.length ≤ 1048576) (hs : sumL xss ≤ 1048576) (hx : ∀ xs ∈ xss, xs.length ≤ 1048576) (hr : RdN w w.heap.size wcells A xss) :
    Calls Tryd.prog 14 #[.slice A xss.length c] w fun e w' => e = .returned (.tuple #[.int .i64 (rkN xss (6 * xss.length - sumL xss)), .int .i64 (rkC xss)]) ∧ Below w.heap.size w w' := by
  have HR := Lib.hid hr
  have HW := Lib.hid hwf
  have HX := Lib.hid hx
  clear hr hwf hx
  go_enter Tryd.func14, Tryd.ntmps14
  go_wp2_with fail
  refine (l04Ok_any xss HW.out A c w hl HX.out HR.out).mono ?_
  rintro e w1 ⟨rfl, hb⟩
  have HB := Lib.hid hb
  clear hb
  cases hv : rkOk xss
  · have E1 := Lib.hid (rkN_no hv (6 * xss.length - sumL xss))
    have E2 := Lib.hid (rkC_no hv)
    clear hv
    go_wp2
    go_ret2
    exact ⟨by (rw [E1.out, E2.out]; first | done | rfl), HB.out⟩
  · have E1 := Lib.hid (rkN_yes hv (6 * xss.length - sumL xss))
    have E2 := Lib.hid (rkC_yes hv)
    clear hv
    have hw1 : IntKind.i64.wrap (6 * (xss.length : Int)) = 6 * (xss.length : Int) := IntWalk.i64_in _ ⟨by omega, by omega⟩
    have hw2 : wrap64 (6 * (xss.length : Int)) = 6 * (xss.length : Int) := IntWalk.wrap64_in _ ⟨by omega, by omega⟩
    have hw3 : IntKind.i64.wrap (6 * (xss.length : Int) - (sumL xss : Int)) = 6 * (xss.length : Int) - (sumL xss : Int) := IntWalk.i64_in _ ⟨by omega, by omega⟩
    have hw4 : wrap64 (6 * (xss.length : Int) - (sumL xss : Int)) = 6 * (xss.length : Int) - (sumL xss : Int) := IntWalk.wrap64_in _ ⟨by omega, by omega⟩
    go_wp2_with fail
    refine (l04Sum_any xss A c _ hl hs (HR.out.keep HB.out)).mono ?_
    rintro e w2 ⟨rfl, rfl⟩
    go_wp2
    go_ret2
    exact ⟨by (rw [E1.out, E2.out]; first | done | rfl), HB.out⟩

set_option maxHeartbeats 1000000 in
theorem implFree_any (xss : List (List Wnt)) (A : Option Addr) (c : Nat) (ad : Nat → Addr) (w : World) (hl : xss.length ≤ 1048576) (hs : sumL xss ≤ 1048576) (hx : ∀ xs ∈ xss, xs.length ≤ 1048576) (hr : RdN w w.heap.size wcells A xss) (hE : EW 7 w ad) :
    Calls Tryd.prog 15 #[.slice A xss.length c] w fun e w' => e = .returned (.tuple #[.int .i64 (rkN xss (6 * xss.length - sumL xss)), .int .i64 (rkC xss)]) ∧ Below w.heap.size w w' := by
  have HR := Lib.hid hr
  have HX := Lib.hid hx
  have HE := Lib.hid hE
  clear hr hx hE
  go_enter Tryd.func15, Tryd.ntmps15
  go_wp2_with fail
  refine (checkRack_any xss A c ad w hl HX.out HR.out HE.out).mono ?_
  rintro e w1 ⟨rfl, hb⟩
  have HB := Lib.hid hb
  clear hb
  cases hv : rkOk xss
  · have E1 := Lib.hid (rkN_no hv (6 * xss.length - sumL xss))
    have E2 := Lib.hid (rkC_no hv)
    rw [erV5_no]
    clear hv
    go_wp2_with fail
    refine (codeOf_5 (HE.out.below HB.out (Nat.le_refl _))).mono ?_
    rintro e w2 ⟨rfl, rfl⟩
    go_wp2
    go_ret2
    exact ⟨by (rw [E1.out, E2.out]; first | done | rfl), HB.out⟩
  · have E1 := Lib.hid (rkN_yes hv (6 * xss.length - sumL xss))
    have E2 := Lib.hid (rkC_yes hv)
    rw [erV_yes]
    clear hv
    have hw1 : IntKind.i64.wrap ((xss.length : Int) * 6) = (xss.length : Int) * 6 := IntWalk.i64_in _ ⟨by omega, by omega⟩
    have hw2 : wrap64 ((xss.length : Int) * 6) = (xss.length : Int) * 6 := IntWalk.wrap64_in _ ⟨by omega, by omega⟩
    have hw3 : IntKind.i64.wrap ((xss.length : Int) * 6 - (sumL xss : Int)) = (xss.length : Int) * 6 - (sumL xss : Int) := IntWalk.i64_in _ ⟨by omega, by omega⟩
    have hw4 : wrap64 ((xss.length : Int) * 6 - (sumL xss : Int)) = (xss.length : Int) * 6 - (sumL xss : Int) := IntWalk.wrap64_in _ ⟨by omega, by omega⟩
    go_wp2_with fail
    refine (storedIn_any xss A c _ hl hs (HR.out.keep HB.out)).mono ?_
    rintro e w2 ⟨rfl, rfl⟩
    go_wp2
    go_ret2
    exact ⟨by (rw [E1.out, E2.out, Int.mul_comm]; first | done | rfl), HB.out⟩
end Go.Proofs.YtpjmkcgofmfdaacDoor
