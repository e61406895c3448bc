/-
  The contracts of ValidRack, of the model and of the program, and of what they call. Condition: the rack reads as lists of things that are stored, whose numbers fit their kinds; the sentinel errors lie as the row lists them (the program's).
-/
import Derived.Test.YtmfdgpinohbckaaDoorRk
import Derived.Test.YtmfdgpinohbckaaDoorE
import Derived.Test.YtmfdgpinohbckaaDoorEz
import Derived.WalkSmall
namespace Go.Proofs.YtmfdgpinohbckaaDoor
open Go.ChangeShapes Go.WideShapes Go.ChangeAt Go.RowKit Go.Deep

/-- The error for what is invalid lies as it should. -/
structure I5 (W : World) (ad : Nat → Addr) : Prop where
  c5 : W.cell? ⟨1, 0, none⟩ = some (.iface 165 (.pointer (some (ad 5))))
theorem I5.below {W W' : World} {ad : Nat → Addr} (h : I5 W ad) {B : Nat} (hb : Below B W W') (hB : W.heap.size ≤ B) : I5 W' ad :=
  ⟨(hb.cell (p := ⟨1, 0, none⟩) (Nat.lt_of_lt_of_le (block_lt_of_cell h.c5) hB)).trans h.c5⟩
theorem EW.i5 {W : World} {ad : Nat → Addr} (h : EW 7 W ad) : I5 W ad := ⟨h.cell 5 (by omega)⟩
/-- Is it valid, what is stored? -/
def sV (x : Wnt) : Bool := vB x.1 && (decide (0 ≤ x.2) && decide (x.2 ≤ 2000))
/-- Is a lane valid, a rack? -/
def lnOk (xs : List Wnt) : Bool := decide (xs.length ≤ 6) && xs.all sV
def rkOk (xss : List (List Wnt)) : Bool := xss.all lnOk && decide (xss.length ≤ 8)
def AllTo {T : Type} (p : T → Bool) (xs : List T) (k : Nat) : Prop := ∀ (j : Nat) (x : T), j < k → xs[j]? = some x → p x = true
theorem AllTo.zero {T : Type} (p : T → Bool) (xs : List T) : AllTo p xs 0 := fun j x h => absurd h (Nat.not_lt_zero _)
theorem AllTo.step {T : Type} {p : T → Bool} {xs : List T} {k : Nat} (h : AllTo p xs k) {x : T} (hx : xs[k]? = some x) (hp : p x = true) : AllTo p xs (k + 1) := fun j y hj hy => by
  by_cases e : j = k
  · subst e
    obtain rfl := Option.some.inj (hx.symm.trans hy)
    exact hp
  · exact h j y (by omega) hy
theorem AllTo.all {T : Type} {p : T → Bool} {xs : List T} (h : AllTo p xs xs.length) : xs.all p = true := by
  rw [List.all_eq_true]
  intro x hx
  obtain ⟨i, hi, rfl⟩ := List.mem_iff_getElem.1 hx
  exact h i _ hi (List.getElem?_eq_getElem hi)
theorem all_no {T : Type} {p : T → Bool} {xs : List T} {k : Nat} {x : T} (hx : xs[k]? = some x) (hp : p x = false) : xs.all p = false := by
  rw [List.all_eq_false]
  exact ⟨x, List.mem_of_getElem? hx, by simp [hp]⟩
theorem rkOk_len {xss : List (List Wnt)} (h : rkOk xss = true) : xss.length ≤ 8 := by
  simp only [rkOk, Bool.and_eq_true, decide_eq_true_eq] at h; exact h.2
theorem rkOk_lane {xss : List (List Wnt)} (h : rkOk xss = true) {xs : List Wnt} (hx : xs ∈ xss) : xs.length ≤ 6 ∧ ∀ x ∈ xs, sV x = true := by
  simp only [rkOk, Bool.and_eq_true, decide_eq_true_eq] at h
  have := List.all_eq_true.1 h.1 xs hx
  simp only [lnOk, Bool.and_eq_true, decide_eq_true_eq] at this
  exact ⟨this.1, fun x hx => List.all_eq_true.1 this.2 x hx⟩

theorem rowW {w : World} {b o : Nat} {k y n : Int} (h : w.rangeAt b o (wcells ((k, y), n))) : w.cell? ⟨b, o, none⟩ = some (.int .u8 k) ∧ w.cell? ⟨b, o + 1, none⟩ = some (.int .i16 y) ∧ w.cell? ⟨b, o + 2, none⟩ = some (.int .i16 n) :=
  ⟨h 0 _ rfl, h 1 _ rfl, h 2 _ rfl⟩

set_option maxHeartbeats 1000000 in
theorem l04Stored_any (x : Wnt) (hwx : wfW x) (b o : Nat) (w : World) (hbl : b < w.heap.size) (hr : w.rangeAt b o (wcells x)) :
    Calls Tryd.prog 82 #[.pointer (some ⟨b, o, none⟩)] w fun e w' => e = .returned (.bool (sV x)) ∧ Below w.heap.size w w' := by
  obtain ⟨⟨k1, y1⟩, n1⟩ := x
  obtain ⟨e1, e2, e3⟩ := rowW hr
  have hn1 : -32768 ≤ n1 := hwx.2.1
  have hn2 : n1 ≤ 32767 := hwx.2.2
  have HWX := Lib.hid hwx
  clear hwx hr
  go_enter Tryd.func82, Tryd.ntmps82
  go_wp2_with fail
  refine (l01Bottle_any _ _ ⟨HWX.out.1.1, HWX.out.1.2.1⟩ ⟨HWX.out.1.2.2.1, HWX.out.1.2.2.2⟩ _).mono ?_
  rintro e w1 ⟨rfl, hb1⟩
  have e4 := (hb1.cell (p := ⟨b, o + 2, none⟩) hbl).trans e3
  have HB := Lib.hid hb1
  clear hb1 e1 e2 e3
  cases hv : vB (k1, y1)
  · have HV := Lib.hid hv
    clear hv
    go_wp2
    go_ret
    exact ⟨ret_bool (by simp [sV, HV.out]), HB.out⟩
  · have HV := Lib.hid hv
    clear hv
    go_wp2_with fail
    refine (l00In_any _ _ _ _).mono ?_
    rintro e w1' ⟨rfl, rfl⟩
    go_wp2
    go_ret
    exact ⟨ret_bool (by simp [sV, HV.out]), HB.out⟩

set_option maxHeartbeats 1000000 in
theorem l04All_any (xs : List Wnt) (hwf : ∀ x ∈ xs, wfW x) (A : Option Addr) (c : Nat) (w : World) (hl : xs.length ≤ 1048576) (hr : Rd w w.heap.size wcells A xs) :
    Calls Tryd.prog 53 #[.slice A xs.length c] w fun e w' => e = .returned (.bool (xs.all sV)) ∧ Below w.heap.size w w' := by
  have HR := Lib.hid hr
  have HW := Lib.hid hwf
  clear hr hwf
  go_enter Tryd.func53, Tryd.ntmps53
  go_wp2_with fail
  go_loopw [3] (fun i wr => ∃ (k : Nat), k ≤ xs.length ∧ i = .int .i64 k ∧ AllTo sV xs k ∧ Below w.heap.size w wr) (fun i _ => xs.length - (intOf i).toNat)
  case atStart => exact ⟨0, by omega, rfl, AllTo.zero _ _, Below.refl _ _⟩
  case round =>
    obtain ⟨k, hk, rfl, hT, hB⟩ := hrel
    have HT := Lib.hid hT
    have HB := Lib.hid hB
    clear hT hB
    by_cases hlt : k < xs.length
    · obtain ⟨x, hx⟩ : ∃ x, xs[k]? = some x := ⟨_, List.getElem?_eq_getElem hlt⟩
      obtain ⟨b, o, rfl, hbl, hrow⟩ := (HR.out.below (Nat.le_refl _) HB.out).at_ wcells_length hx
      have HX := Lib.hid hx
      have HRow := Lib.hid hrow
      have hk0 : (0 : Int) ≤ (k : Int) := Int.natCast_nonneg _
      have hk8 : (k : Int) < xs.length := by omega
      have hbw : b < wr.heap.size := Nat.lt_of_lt_of_le hbl HB.out.size
      clear hx hrow
      go_wp2_with fail
      refine (l04Stored_any x (HW.out x (List.mem_of_getElem? HX.out)) b (o + k * 3) _ hbw HRow.out).mono ?_
      rintro e w1 ⟨rfl, hb1⟩
      have HB1 : Hid (Below w.heap.size w w1) := HB.out.trans (hb1.mono HB.out.size)
      clear hb1
      cases hv : sV x
      · have HV := Lib.hid hv
        clear hv
        go_wp2
        go_ret
        exact ⟨ret_bool (all_no HX.out HV.out).symm, HB1.out⟩
      · have HV := Lib.hid hv
        clear hv
        go_wp2
        go_roundw
        case rel => exact ⟨k + 1, by omega, by go_num, HT.out.step HX.out HV.out, HB1.out⟩
        case measure => simp [intOf]; omega
    · obtain rfl : k = xs.length := by omega
      go_wp2
      go_ret
      exact ⟨ret_bool HT.out.all.symm, HB.out⟩

set_option maxHeartbeats 2000000 in
theorem l04Ok_any (xss : List (List Wnt)) (hwf : ∀ xs ∈ xss, ∀ x ∈ xs, wfW x) (A : Option Addr) (c : Nat) (w : World) (hl : xss.length ≤ 1048576) (hx : ∀ xs ∈ xss, xs.length ≤ 1048576) (hr : RdN w w.heap.size wcells A xss) :
    Calls Tryd.prog 60 #[.slice A xss.length c] w fun e w' => e = .returned (.bool (rkOk xss)) ∧ Below w.heap.size w w' := by
  have HR := Lib.hid hr
  have HW := Lib.hid hwf
  have HX := Lib.hid hx
  clear hr hwf hx
  go_enter Tryd.func60, Tryd.ntmps60
  go_wp2_with fail
  go_loopw [3] (fun i wr => ∃ (k : Nat), k ≤ xss.length ∧ i = .int .i64 k ∧ AllTo lnOk xss k ∧ Below w.heap.size w wr) (fun i _ => xss.length - (intOf i).toNat)
  case atStart => exact ⟨0, by omega, rfl, AllTo.zero _ _, Below.refl _ _⟩
  case round =>
    obtain ⟨k, hk, rfl, hT, hB⟩ := hrel
    have HT := Lib.hid hT
    have HB := Lib.hid hB
    clear hT hB
    by_cases hlt : k < xss.length
    · obtain ⟨xs, hxs⟩ : ∃ x, xss[k]? = some x := ⟨_, List.getElem?_eq_getElem hlt⟩
      obtain ⟨b, o, a, c', rfl, hb, hc, hrd⟩ := (HR.out.keep HB.out).at_ hxs
      have hxl := HX.out xs (List.mem_of_getElem? hxs)
      have hk0 : (0 : Int) ≤ (k : Int) := Int.natCast_nonneg _
      have hk8 : (k : Int) < xss.length := by omega
      have HXs := Lib.hid hxs
      have HRd := Lib.hid hrd
      clear hxs hrd
      by_cases h6 : (6 : Int) < xs.length
      · go_wp2
        go_ret
        exact ⟨ret_bool (by rw [rkOk, all_no HXs.out (by simp [lnOk]; intro; omega)]; rfl), HB.out⟩
      · have h6' : (xs.length : Int) ≤ 6 := by omega
        go_wp2_with fail
        refine (l04All_any xs (HW.out xs (List.mem_of_getElem? HXs.out)) a c' _ hxl HRd.out).mono ?_
        rintro e w1 ⟨rfl, hb1⟩
        have HB1 : Hid (Below w.heap.size w w1) := HB.out.trans (hb1.mono HB.out.size)
        clear hb1
        cases hv : xs.all sV
        · have HV := Lib.hid hv
          clear hv
          go_wp2
          go_ret
          exact ⟨ret_bool (by rw [rkOk, all_no HXs.out (by simp only [lnOk, HV.out, Bool.and_false])]; rfl), HB1.out⟩
        · have HV := Lib.hid hv
          clear hv
          go_wp2
          go_roundw
          case rel => exact ⟨k + 1, by omega, by go_num, HT.out.step HXs.out (by simp only [lnOk, HV.out, Bool.and_true, decide_eq_true_eq]; omega), HB1.out⟩
          case measure => simp [intOf]; omega
    · obtain rfl : k = xss.length := by omega
      go_wp2
      go_ret
      exact ⟨ret_bool (by rw [rkOk, HT.out.all]; simp; try omega), HB.out⟩
set_option maxHeartbeats 1000000 in
theorem isValid_any (x : Wnt) (w : World) :
    Calls Tryd.prog 84 #[.agg (wcells x).toArray] w fun e w' => e = .returned (.bool (sV x)) ∧ Below w.heap.size w w' := by
  obtain ⟨⟨k1, y1⟩, n1⟩ := x
  show Calls Tryd.prog 84 #[.agg #[.int .u8 k1, .int .i16 y1, .int .i16 n1]] w fun e w' => e = .returned (.bool (sV ((k1, y1), n1))) ∧ Below w.heap.size w w'
  have HA : Hid (Below w.heap.size w (w.alloc (.cells #[.int .u8 k1, .int .i16 y1, .int .i16 n1] 30))) := (Below.refl _ w).alloc (Nat.le_refl _) _
  have HC : Hid (Blk (w.alloc (.cells #[.int .u8 k1, .int .i16 y1, .int .i16 n1] 30)) w.heap.size 30 #[.int .u8 k1, .int .i16 y1, .int .i16 n1]) := Blk.new _ _ _
  go_enter Tryd.func84, Tryd.ntmps84
  go_wp2_with fail
  refine (validBottle_any _ _ _).mono ?_
  rintro e w1 ⟨rfl, hb1⟩
  have HB1 : Hid (Below w.heap.size w w1) := HA.out.trans (hb1.mono HA.out.size)
  have d2 : w1.cell? ⟨w.heap.size, 2, none⟩ = some (.int .i16 n1) := (HC.out.keep hb1).cell 2
  clear hb1 HA HC
  cases hv : vB (k1, y1)
  · have HV := Lib.hid hv
    clear hv
    go_wp2
    go_ret
    exact ⟨ret_bool (by simp [sV, HV.out]), HB1.out⟩
  · have HV := Lib.hid hv
    clear hv
    by_cases hlo : n1 < 0
    · go_wp2
      go_ret
      exact ⟨ret_bool (by simp [sV]; intro _ h; omega), HB1.out⟩
    have hlo' : 0 ≤ n1 := by omega
    go_wp2
    go_ret
    exact ⟨ret_bool (by simp [sV, HV.out, hlo']), HB1.out⟩

set_option maxHeartbeats 2000000 in
theorem checkEachS_any (xs : List Wnt) (A : Option Addr) (c : Nat) (ad : Nat → Addr) (w : World) (hl : xs.length ≤ 1048576) (hr : Rd w w.heap.size wcells A xs) (hE : I5 w ad) :
    Calls Tryd.prog 83 #[.slice A xs.length c, .func (.func 84) #[] #[]] w fun e w' => e = .returned (erV ad 5 (xs.all sV)) ∧ Below w.heap.size w w' := by
  have HR := Lib.hid hr
  have HE := Lib.hid hE
  clear hr hE
  go_enter Tryd.func83, Tryd.ntmps83
  go_wp2_with fail
  go_loopw [9] (fun i wr => ∃ (k : Nat), k ≤ xs.length ∧ i = .int .i64 k ∧ AllTo sV xs k ∧ Below w.heap.size w wr) (fun i _ => xs.length - (intOf i).toNat)
  case atStart => exact ⟨0, by omega, rfl, AllTo.zero _ _, Below.refl _ _⟩
  case round =>
    obtain ⟨k, hk, rfl, hT, hB⟩ := hrel
    have HT := Lib.hid hT
    have HB := Lib.hid hB
    clear hT hB
    by_cases hlt : k < xs.length
    · obtain ⟨⟨⟨k1, y1⟩, n1⟩, hx⟩ : ∃ x, xs[k]? = some x := ⟨_, List.getElem?_eq_getElem hlt⟩
      obtain ⟨b, o, rfl, hbl, hrow⟩ := (HR.out.below (Nat.le_refl _) HB.out).at_ wcells_length hx
      obtain ⟨e1, e2, e3⟩ := rowW hrow
      have HX := Lib.hid hx
      have hk0 : (0 : Int) ≤ (k : Int) := Int.natCast_nonneg _
      have hk8 : (k : Int) < xs.length := by omega
      have HA : Hid (Below w.heap.size w (wr.alloc (.cells #[.int .u8 k1, .int .i16 y1, .int .i16 n1] 30))) := HB.out.alloc HB.out.size _
      clear hx hrow
      go_wp2_with fail
      refine (isValid_any ((k1, y1), n1) _).mono ?_
      rintro e w1 ⟨rfl, hb1⟩
      have HB1 : Hid (Below w.heap.size w w1) := HA.out.trans (hb1.mono HA.out.size)
      have c0 : w1.cell? ⟨1, 0, none⟩ = some (.iface 165 (.pointer (some (ad 5)))) := ((HE.out).below HB1.out (Nat.le_refl _)).c5
      clear hb1 HA e1 e2 e3
      cases hv : sV ((k1, y1), n1)
      · have HV := Lib.hid hv
        clear hv
        go_wp2
        go_ret
        exact ⟨by rw [all_no HX.out HV.out]; rfl, HB1.out⟩
      · have HV := Lib.hid hv
        clear hv
        go_wp2
        go_roundw
        case rel => exact ⟨k + 1, by omega, by go_num, HT.out.step HX.out HV.out, HB1.out⟩
        case measure => simp [intOf]; omega
    · obtain rfl : k = xs.length := by omega
      go_wp2
      go_ret
      exact ⟨by rw [HT.out.all]; rfl, HB.out⟩

set_option maxHeartbeats 2000000 in
theorem validRack_any (xss : List (List Wnt)) (A : Option Addr) (c : Nat) (ad : Nat → Addr) (w : World) (hl : xss.length ≤ 1048576) (hx : ∀ xs ∈ xss, xs.length ≤ 1048576) (hr : RdN w w.heap.size wcells A xss) (hE : I5 w ad) :
    Calls Tryd.prog 65 #[.slice A xss.length c] w fun e w' => e = .returned (.bool (rkOk xss)) ∧ Below w.heap.size w w' := by
  have HR := Lib.hid hr
  have HE := Lib.hid hE
  have HX := Lib.hid hx
  clear hr hE hx
  by_cases h8 : (8 : Int) < xss.length
  · go_enter Tryd.func65, Tryd.ntmps65
    go_wp2
    go_ret
    exact ⟨ret_bool (by simp [rkOk]; intro; omega), Below.refl _ _⟩
  have h8' : (xss.length : Int) ≤ 8 := by omega
  go_enter Tryd.func65, Tryd.ntmps65
  go_wp2_with fail
  go_loopw [10] (fun i wr => ∃ (k : Nat), k ≤ xss.length ∧ i = .int .i64 k ∧ AllTo lnOk xss k ∧ Below w.heap.size w wr) (fun i _ => xss.length - (intOf i).toNat)
  case atStart => exact ⟨0, by omega, rfl, AllTo.zero _ _, Below.refl _ _⟩
  case round =>
    obtain ⟨k, hk, rfl, hT, hB⟩ := hrel
    have HT := Lib.hid hT
    have HB := Lib.hid hB
    clear hT hB
    by_cases hlt : k < xss.length
    · obtain ⟨xs, hxs⟩ : ∃ x, xss[k]? = some x := ⟨_, List.getElem?_eq_getElem hlt⟩
      obtain ⟨b, o, a, c', rfl, hb, hc, hrd⟩ := (HR.out.keep HB.out).at_ hxs
      have hxl := HX.out xs (List.mem_of_getElem? hxs)
      have hk0 : (0 : Int) ≤ (k : Int) := Int.natCast_nonneg _
      have hk8 : (k : Int) < xss.length := by omega
      have HXs := Lib.hid hxs
      have HRd := Lib.hid hrd
      clear hxs hrd
      by_cases h6 : (6 : Int) < xs.length
      · go_wp2
        go_ret
        exact ⟨ret_bool (by rw [rkOk, all_no HXs.out (by simp [lnOk]; intro; omega)]; rfl), HB.out⟩
      · have h6' : (xs.length : Int) ≤ 6 := by omega
        go_wp2_with fail
        refine (checkEachS_any xs a c' ad _ hxl HRd.out (HE.out.below HB.out (Nat.le_refl _))).mono ?_
        rintro e w1 ⟨rfl, hb1⟩
        have HB1 : Hid (Below w.heap.size w w1) := HB.out.trans (hb1.mono HB.out.size)
        clear hb1
        cases hv : xs.all sV
        · have HV := Lib.hid hv
          clear hv
          rw [show erV ad 5 false = .iface 165 (.pointer (some (ad 5))) from rfl]
          go_wp2
          go_ret
          exact ⟨ret_bool (by rw [rkOk, all_no HXs.out (by simp only [lnOk, HV.out, Bool.and_false])]; rfl), HB1.out⟩
        · have HV := Lib.hid hv
          clear hv
          rw [show erV ad 5 true = .nilIface from rfl]
          go_wp2
          go_roundw
          case rel => exact ⟨k + 1, by omega, by go_num, HT.out.step HXs.out (by simp only [lnOk, HV.out, Bool.and_true, decide_eq_true_eq]; omega), HB1.out⟩
          case measure => simp [intOf]; omega
    · obtain rfl : k = xss.length := by omega
      go_wp2
      go_ret
      exact ⟨ret_bool (by rw [rkOk, HT.out.all]; simp; try omega), HB.out⟩
end Go.Proofs.YtmfdgpinohbckaaDoor
