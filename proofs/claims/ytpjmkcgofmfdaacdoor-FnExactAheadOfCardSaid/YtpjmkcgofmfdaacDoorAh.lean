/-
  The contracts of AheadOf, of the model and of the program, and of what they call. Condition: the rack reads as lists of things that are stored, whose numbers fit their kinds, not more than 1048576; the sentinel errors lie as the row lists them (the program's).
-/
import Derived.Test.YtpjmkcgofmfdaacDoorRs
import Derived.Test.YtpjmkcgofmfdaacDoorSp0
namespace Go.Proofs.YtpjmkcgofmfdaacDoor
open Go.ChangeShapes Go.WideShapes Go.ChangeAt Go.RowKit Go.Deep

/-- Is a number an index? -/
def inB (l : Int) (n : Nat) : Bool := decide (0 ≤ l) && decide (l < n)
/-- A lane; a spot in a rack. -/
def lnAt (xss : List (List Wnt)) (l : Int) : List Wnt := xss.getD l.toNat []
def spotOk (xss : List (List Wnt)) (l i : Int) : Bool := inB l xss.length && inB i (lnAt xss l).length
theorem inB_nat {l : Int} {n : Nat} (h : inB l n = true) : ∃ k : Nat, l = k ∧ k < n := by
  simp only [inB, Bool.and_eq_true, decide_eq_true_eq] at h
  exact ⟨l.toNat, (Int.toNat_of_nonneg h.1).symm, by omega⟩
theorem lnAt_nat {xss : List (List Wnt)} {k : Nat} (h : k < xss.length) : xss[k]? = some (lnAt xss k) := by simp [lnAt, h]
/-- The code of a function of a rack, a lane and an index; a number that it tells. -/
def akC (xss : List (List Wnt)) (l i : Int) : Int := if rkOk xss = true then (if spotOk xss l i = true then 0 else 2) else 1
def akN (xss : List (List Wnt)) (l i : Int) (n : Int) : Int := if akC xss l i = 0 then n else 0

theorem l04Lane_any (n c : Nat) (A : Option Addr) (l : Int) (w : World) (hn : n ≤ 1048576) :
    Calls Tryd.prog 38 #[.slice A n c, .int .i64 l] w fun e w' => e = .returned (.bool (inB l n)) ∧ w = w' := by
  have hn0 : (0 : Int) ≤ (n : Int) := Int.natCast_nonneg _
  have hw1 : IntKind.i64.wrap ((n : Int) - 1) = (n : Int) - 1 := IntWalk.i64_in _ ⟨by omega, by omega⟩
  have hw2 : wrap64 ((n : Int) - 1) = (n : Int) - 1 := IntWalk.wrap64_in _ ⟨by omega, by omega⟩
  go_enter Tryd.func38, Tryd.ntmps38
  go_wp2_with fail
  refine (l00In_any _ _ _ _).mono ?_
  rintro e w1 ⟨rfl, rfl⟩
  go_wp2
  go_ret
  refine ⟨ret_bool ?_, rfl⟩
  unfold inB
  congr 1
  rw [decide_eq_decide]; omega

set_option maxHeartbeats 1000000 in
theorem l04Asked_any (xss : List (List Wnt)) (hwf : ∀ xs ∈ xss, ∀ x ∈ xs, wfW x) (A : Option Addr) (c : Nat) (l i : Int) (w : World) (hl : xss.length ≤ 1048576) (hx : ∀ xs ∈ xss, xs.length ≤ 1048576) (hr : RdN w w.heap.size wcells A xss) :
    Calls Tryd.prog 28 #[.slice A xss.length c, .int .i64 l, .int .i64 i] w fun e w' => e = .returned (.int .i64 (akC xss l i)) ∧ Below w.heap.size w w' := by
  have HR := Lib.hid hr
  have HW := Lib.hid hwf
  have HX := Lib.hid hx
  clear hr hwf hx
  go_enter Tryd.func28, Tryd.ntmps28
  go_wp2_with fail
  refine (l04Ok_any xss HW.out A c w hl HX.out HR.out).mono ?_
  rintro e w1 ⟨rfl, hb⟩
  have HB := Lib.hid hb
  clear hb
  cases hv : rkOk xss
  · have E1 : Hid (akC xss l i = 1) := by show akC xss l i = 1; simp [akC, hv]
    clear hv
    go_wp2
    go_ret
    exact ⟨by (rw [E1.out]; first | done | rfl), HB.out⟩
  have HV := Lib.hid hv
  clear hv
  go_wp2_with fail
  refine (l04Lane_any xss.length c A l _ hl).mono ?_
  rintro e w2 ⟨rfl, rfl⟩
  cases hi : inB l xss.length
  · have E1 : Hid (akC xss l i = 2) := by show akC xss l i = 2; simp [akC, HV.out, spotOk, hi]
    clear hi
    go_wp2
    go_ret
    exact ⟨by (rw [E1.out]; first | done | rfl), HB.out⟩
  obtain ⟨k, rfl, hk⟩ := inB_nat hi
  have HI := Lib.hid hi
  clear hi
  obtain ⟨xs, hxs⟩ : ∃ xs, lnAt xss k = xs := ⟨_, rfl⟩
  have hxk := lnAt_nat hk
  rw [hxs] at hxk
  have HXs := Lib.hid hxs
  obtain ⟨b, o, a, c', rfl, hb, hc, -⟩ := (HR.out.keep HB.out).at_ hxk
  have hxl := HX.out xs (List.mem_of_getElem? hxk)
  have hk0 : (0 : Int) ≤ (k : Int) := Int.natCast_nonneg _
  have hk8 : (k : Int) < xss.length := by omega
  have hn0 : (0 : Int) ≤ (xs.length : Int) := Int.natCast_nonneg _
  have hw1 : IntKind.i64.wrap ((xs.length : Int) - 1) = (xs.length : Int) - 1 := IntWalk.i64_in _ ⟨by omega, by omega⟩
  have hw2 : wrap64 ((xs.length : Int) - 1) = (xs.length : Int) - 1 := IntWalk.wrap64_in _ ⟨by omega, by omega⟩
  clear hxk hxs
  go_wp2_with fail
  refine (l00In_any _ _ _ _).mono ?_
  rintro e w3 ⟨rfl, rfl⟩
  have e1 : (decide (0 ≤ i) && decide (i ≤ (xs.length : Int) - 1)) = inB i xs.length := by
    unfold inB
    congr 1
    rw [decide_eq_decide]; omega
  rw [e1]
  clear e1 hw1 hw2
  cases hj : inB i xs.length
  · have E1 : Hid (akC xss k i = 2) := by show akC xss k i = 2; simp [akC, HV.out, spotOk, HI.out, HXs.out, hj]
    clear hj
    go_wp2
    go_ret
    exact ⟨by (rw [E1.out]; first | done | rfl), HB.out⟩
  · have E1 : Hid (akC xss k i = 0) := by show akC xss k i = 0; simp [akC, HV.out, spotOk, HI.out, HXs.out, hj]
    clear hj
    go_wp2
    go_ret
    exact ⟨by (rw [E1.out]; first | done | rfl), HB.out⟩

theorem akC_yes {xss : List (List Wnt)} {l i : Int} (h : akC xss l i = 0) : rkOk xss = true ∧ inB l xss.length = true ∧ inB i (lnAt xss l).length = true := by
  unfold akC at h
  split at h
  · split at h
    · have hs : spotOk xss l i = true := by assumption
      simp only [spotOk, Bool.and_eq_true] at hs
      exact ⟨by assumption, hs⟩
    · cases h
  · cases h
theorem akC_cases (xss : List (List Wnt)) (l i : Int) : akC xss l i = 0 ∨ akC xss l i = 1 ∨ akC xss l i = 2 := by
  unfold akC; split
  · split <;> simp
  · simp

set_option maxHeartbeats 1000000 in
theorem specAhead_any (xss : List (List Wnt)) (hwf : ∀ xs ∈ xss, ∀ x ∈ xs, wfW x) (A : Option Addr) (c : Nat) (l i : Int) (w : World) (hl : xss.length ≤ 1048576) (hx : ∀ xs ∈ xss, xs.length ≤ 1048576) (hr : RdN w w.heap.size wcells A xss) :
    Calls Tryd.prog 16 #[.slice A xss.length c, .int .i64 l, .int .i64 i] w fun e w' => e = .returned (.tuple #[.int .i64 (akN xss l i ((lnAt xss l).length - 1 - i)), .int .i64 (akC xss l i)]) ∧ Below w.heap.size w w' := by
  have HR := Lib.hid hr
  have HW := Lib.hid hwf
  have HX := Lib.hid hx
  clear hr hwf hx
  go_enter Tryd.func16, Tryd.ntmps16
  go_wp2_with fail
  refine (l04Asked_any xss HW.out A c l i w hl HX.out HR.out).mono ?_
  rintro e w1 ⟨rfl, hb⟩
  have HB := Lib.hid hb
  clear hb
  by_cases h0 : akC xss l i = 0
  · obtain ⟨-, h2, h3⟩ := akC_yes h0
    obtain ⟨k, rfl, hk⟩ := inB_nat h2
    obtain ⟨j, rfl, hj⟩ := inB_nat h3
    have E1 := Lib.hid h0
    have E2 : Hid (akN xss k j ((lnAt xss k).length - 1 - j) = (lnAt xss k).length - 1 - j) := by show akN xss k j _ = _; rw [akN, if_pos h0]
    obtain ⟨xs, hxs⟩ : ∃ xs, lnAt xss k = xs := ⟨_, rfl⟩
    have hxk := lnAt_nat hk
    rw [hxs] at hxk hj
    have HXs := Lib.hid hxs
    obtain ⟨b, o, a, c', rfl, hb, hc, -⟩ := (HR.out.keep HB.out).at_ hxk
    have hxl := HX.out xs (List.mem_of_getElem? hxk)
    have hk0 : (0 : Int) ≤ (k : Int) := Int.natCast_nonneg _
    have hk8 : (k : Int) < xss.length := by omega
    have hn0 : (0 : Int) ≤ (xs.length : Int) := Int.natCast_nonneg _
    have hj0 : (0 : Int) ≤ (j : Int) := Int.natCast_nonneg _
    have hw1 : IntKind.i64.wrap ((xs.length : Int) - 1) = (xs.length : Int) - 1 := IntWalk.i64_in _ ⟨by omega, by omega⟩
    have hw2 : wrap64 ((xs.length : Int) - 1) = (xs.length : Int) - 1 := IntWalk.wrap64_in _ ⟨by omega, by omega⟩
    have hw3 : IntKind.i64.wrap ((xs.length : Int) - 1 - j) = (xs.length : Int) - 1 - j := IntWalk.i64_in _ ⟨by omega, by omega⟩
    have hw4 : wrap64 ((xs.length : Int) - 1 - j) = (xs.length : Int) - 1 - j := IntWalk.wrap64_in _ ⟨by omega, by omega⟩
    rw [h0]
    clear hxk hxs h2 h3 h0
    go_wp2
    go_ret2
    exact ⟨by (rw [E2.out, E1.out, HXs.out]; first | done | rfl), HB.out⟩
  · have E2 : Hid (akN xss l i ((lnAt xss l).length - 1 - i) = 0) := by show akN xss l i _ = 0; rw [akN, if_neg h0]
    obtain ⟨cd, hcd⟩ : ∃ cd, akC xss l i = cd := ⟨_, rfl⟩
    have E1 := Lib.hid hcd
    rw [hcd] at h0 ⊢
    have hb0 : (cd == 0) = false := by simpa using h0
    clear hcd
    go_wp2
    go_ret2
    exact ⟨by (rw [E2.out, E1.out]; first | done | rfl), HB.out⟩

theorem checkIdx1_any (i : Int) (n : Nat) (B c : Nat) (ad : Nat → Addr) (w : World) (hn : n ≤ 1048576) (h0 : w.cell? ⟨B, 0, none⟩ = some (.int .i64 i)) (hE : EW 7 w ad) :
    Calls Tryd.prog 41 #[.slice (some ⟨B, 0, none⟩) 1 c, .int .i64 n] w fun e w' => e = .returned (erV ad 0 (inB i n)) ∧ w = w' := by
  have c0 : w.cell? ⟨1, 0, none⟩ = some (.iface 91 (.pointer (some (ad 0)))) := hE.cell 0 (by omega)
  clear hE
  by_cases h1 : i < 0
  · have E1 : Hid (inB i n = false) := by show inB i n = false; simp [inB]; omega
    go_enter Tryd.func41, Tryd.ntmps41
    go_wp2
    refine wp_loop_rounds 2 ?_
    rw [rounds_succ]
    go_wp2
    go_ret
    exact ⟨by rw [E1.out]; rfl, rfl⟩
  have h1d : decide (i < 0) = false := decide_eq_false h1
  by_cases h2 : (n : Int) ≤ i
  · have E1 : Hid (inB i n = false) := by show inB i n = false; simp [inB]; omega
    go_enter Tryd.func41, Tryd.ntmps41
    go_wp2
    refine wp_loop_rounds 2 ?_
    rw [rounds_succ]
    go_wp2
    go_ret
    exact ⟨by rw [E1.out]; rfl, rfl⟩
  have h2d : decide ((n : Int) ≤ i) = false := decide_eq_false h2
  have E1 : Hid (inB i n = true) := by show inB i n = true; simp [inB]; omega
  go_enter Tryd.func41, Tryd.ntmps41
  go_wp2
  refine wp_loop_rounds 2 ?_
  rw [rounds_succ]
  go_wp2
  rw [rounds_succ]
  go_wp2
  go_ret
  exact ⟨by rw [E1.out]; rfl, rfl⟩

theorem new_cell (W : World) (v : Value) (t : TypeId) : (W.alloc (.cells #[v] t)).cell? ⟨W.heap.size, 0, none⟩ = some v := by
  rw [cell_of_row _ _ _ _ _ _ (heap_alloc_new W (.cells #[v] t))]; rfl
theorem erV0_no (ad : Nat → Addr) : erV ad 0 false = .iface 91 (.pointer (some (ad 0))) := rfl
set_option maxHeartbeats 1000000 in
theorem checkLane_any (n c : Nat) (A : Option Addr) (l : Int) (ad : Nat → Addr) (w : World) (hn : n ≤ 1048576) (hE : EW 7 w ad) :
    Calls Tryd.prog 40 #[.slice A n c, .int .i64 l] w fun e w' => e = .returned (erV ad 0 (inB l n)) ∧ Below w.heap.size w w' := by
  have HE := Lib.hid hE
  clear hE
  go_enter Tryd.func40, Tryd.ntmps40
  go_wp2_with fail
  have hA : Below w.heap.size w (w.alloc (.cells #[.int .i64 l] 2)) := (Below.refl _ _).alloc (Nat.le_refl _) _
  refine (checkIdx1_any l n w.heap.size _ ad _ hn (new_cell w _ _) (HE.out.below hA (Nat.le_refl _))).mono ?_
  rintro e w1 ⟨rfl, rfl⟩
  have HA := Lib.hid hA
  obtain ⟨v, hv⟩ : ∃ v, erV ad 0 (inB l n) = v := ⟨_, rfl⟩
  have HV := Lib.hid hv
  rw [hv]
  clear hv hA
  go_wp2
  go_ret
  exact ⟨by (rw [HV.out]; first | done | rfl), HA.out⟩

set_option maxHeartbeats 1000000 in
theorem checkSpot_any (xss : List (List Wnt)) (A : Option Addr) (c : Nat) (l i : Int) (ad : Nat → Addr) (w : World) (hl : xss.length ≤ 1048576) (hx : ∀ xs ∈ xss, xs.length ≤ 1048576) (hr : RdN w w.heap.size wcells A xss) (hE : EW 7 w ad) :
    Calls Tryd.prog 30 #[.slice A xss.length c, .int .i64 l, .int .i64 i] w fun e w' => e = .returned (erV ad 0 (spotOk xss l i)) ∧ Below w.heap.size w w' := by
  have HE := Lib.hid hE
  have HR := Lib.hid hr
  have HX := Lib.hid hx
  clear hE hr hx
  go_enter Tryd.func30, Tryd.ntmps30
  go_wp2_with fail
  refine (checkLane_any xss.length c A l ad w hl HE.out).mono ?_
  rintro e w1 ⟨rfl, hb⟩
  have HB := Lib.hid hb
  clear hb
  cases hi : inB l xss.length
  · have E1 : Hid (spotOk xss l i = false) := by show spotOk xss l i = false; simp [spotOk, hi]
    clear hi
    rw [erV0_no]
    go_wp2
    go_ret
    exact ⟨by rw [E1.out]; rfl, HB.out⟩
  obtain ⟨k, rfl, hk⟩ := inB_nat hi
  have HI := Lib.hid hi
  clear hi
  rw [erV_yes]
  obtain ⟨xs, hxs⟩ : ∃ xs, lnAt xss k = xs := ⟨_, rfl⟩
  have hxk := lnAt_nat hk
  rw [hxs] at hxk
  have HXs := Lib.hid hxs
  obtain ⟨b, o, a, c', rfl, hb, hc, -⟩ := (HR.out.keep HB.out).at_ hxk
  have hxl := HX.out xs (List.mem_of_getElem? hxk)
  have hk0 : (0 : Int) ≤ (k : Int) := Int.natCast_nonneg _
  have hk8 : (k : Int) < xss.length := by omega
  have hne : b ≠ w1.heap.size := by omega
  clear hxk hxs
  go_wp2_with fail
  have hA : Below w1.heap.size w1 (w1.alloc (.cells #[.int .i64 i] 2)) := (Below.refl _ _).alloc (Nat.le_refl _) _
  have hA2 : Below w.heap.size w (w1.alloc (.cells #[.int .i64 i] 2)) := HB.out.trans (hA.mono HB.out.size)
  refine (checkIdx1_any i xs.length w1.heap.size _ ad _ hxl (new_cell w1 _ _) (HE.out.below hA2 (Nat.le_refl _))).mono ?_
  rintro e w2 ⟨rfl, rfl⟩
  have HA := Lib.hid hA2
  have E1 : Hid (spotOk xss k i = inB i xs.length) := by show spotOk xss k i = _; simp [spotOk, HI.out, HXs.out]
  obtain ⟨v, hv⟩ : ∃ v, erV ad 0 (inB i xs.length) = v := ⟨_, rfl⟩
  have HV := Lib.hid hv
  rw [hv]
  clear hv hA hA2
  go_wp2
  go_ret
  exact ⟨by (rw [E1.out, HV.out]; first | done | rfl), HA.out⟩

set_option maxHeartbeats 2000000 in
theorem implAhead_any (xss : List (List Wnt)) (hwf : ∀ xs ∈ xss, ∀ x ∈ xs, wfW x) (A : Option Addr) (c : Nat) (l i : Int) (ad : Nat → Addr) (w : World) (hl : xss.length ≤ 1048576) (hx : ∀ xs ∈ xss, xs.length ≤ 1048576) (hr : RdN w w.heap.size wcells A xss) (hE : EW 7 w ad) :
    Calls Tryd.prog 17 #[.slice A xss.length c, .int .i64 l, .int .i64 i] w fun e w' => e = .returned (.tuple #[.int .i64 (akN xss l i ((lnAt xss l).length - 1 - i)), .int .i64 (akC xss l i)]) ∧ Below w.heap.size w w' := by
  have HE := Lib.hid hE
  have HR := Lib.hid hr
  have HX := Lib.hid hx
  have HW := Lib.hid hwf
  clear hE hr hx hwf
  go_enter Tryd.func17, Tryd.ntmps17
  go_wp2_with fail
  refine (checkRack_any xss A c ad w hl HX.out HR.out HE.out).mono ?_
  rintro e w1 ⟨rfl, hb⟩
  have HB := Lib.hid hb
  clear hb
  obtain ⟨v0, hv0⟩ : ∃ v, erV ad 5 (rkOk xss) = v := ⟨_, rfl⟩
  have hp0 := erV_isE ad 5 (rkOk xss)
  rw [hv0] at hp0 ⊢
  have V0 := Lib.hid hv0
  have P0 := Lib.hid hp0
  clear hv0 hp0
  go_wp2_with fail
  refine (checkSpot_any xss A c l i ad w1 hl HX.out (HR.out.keep HB.out) (HE.out.below HB.out (Nat.le_refl _))).mono ?_
  rintro e w2 ⟨rfl, hb⟩
  have HB2 : Hid (Below w.heap.size w w2) := HB.out.trans (hb.mono HB.out.size)
  clear hb HB
  obtain ⟨v1, hv1⟩ : ∃ v, erV ad 0 (spotOk xss l i) = v := ⟨_, rfl⟩
  have hp1 := erV_isE ad 0 (spotOk xss l i)
  rw [hv1] at hp1 ⊢
  have V1 := Lib.hid hv1
  have P1 := Lib.hid hp1
  clear hv1 hp1
  go_wp2_with (refine wpList_twoErrs rfl (.tmp 10) (.tmp 14) rfl P0.out P1.out rfl rfl ?_)
  have q0 := new_cell2 w2 v0 v1 39
  refine (first2_any P0.out P1.out _ _ _ q0.1 q0.2).mono ?_
  rintro e w9 ⟨rfl, rfl⟩
  have L2 : Below w.heap.size w (w2.alloc (.cells #[v0, v1] 39)) := HB2.out.alloc HB2.out.size _
  obtain ⟨w3, hw3⟩ : ∃ w3, w2.alloc (.cells #[v0, v1] 39) = w3 := ⟨_, rfl⟩
  rw [hw3] at L2 ⊢
  have M2 := Lib.hid L2
  clear q0 hw3 L2 HB2
  cases ha : rkOk xss
  · have hv : firstV v0 v1 = .iface 91 (.pointer (some (ad 5))) := by rw [← V0.out, ha]; rfl
    rw [hv]
    have h0 : akC xss l i = 1 := by simp [akC, ha]
    have E1 := Lib.hid h0
    have E2 : Hid (akN xss l i ((lnAt xss l).length - 1 - i) = 0) := by show akN xss l i _ = 0; rw [akN, if_neg (by omega)]
    clear hv h0 ha
    go_wp2_with fail
    refine (codeOf_5 (HE.out.below M2.out (Nat.le_refl _))).mono ?_
    rintro e w4 ⟨rfl, rfl⟩
    go_wp2
    go_ret2
    exact ⟨by (rw [E1.out, E2.out]; first | done | rfl), M2.out⟩
  cases hi : spotOk xss l i
  · have hv : firstV v0 v1 = .iface 91 (.pointer (some (ad 0))) := by rw [← V0.out, ← V1.out, ha, hi]; rfl
    rw [hv]
    have h0 : akC xss l i = 2 := by simp [akC, ha, hi]
    have E1 := Lib.hid h0
    have E2 : Hid (akN xss l i ((lnAt xss l).length - 1 - i) = 0) := by show akN xss l i _ = 0; rw [akN, if_neg (by omega)]
    clear hv h0 ha hi
    go_wp2_with fail
    refine (codeOf_0 (EW.less (HE.out.below M2.out (Nat.le_refl _)) (by omega))).mono ?_
    rintro e w4 ⟨rfl, rfl⟩
    go_wp2
    go_ret2
    exact ⟨by (rw [E1.out, E2.out]; first | done | rfl), M2.out⟩
  have hv : firstV v0 v1 = .nilIface := by rw [← V0.out, ← V1.out, ha, hi]; rfl
  rw [hv]
  have h0 : akC xss l i = 0 := by simp [akC, ha, hi]
  obtain ⟨-, h2, h3⟩ := akC_yes h0
  obtain ⟨k, rfl, hk⟩ := inB_nat h2
  obtain ⟨j, rfl, hj⟩ := inB_nat h3
  have E1 := Lib.hid h0
  have E2 : Hid (akN xss k j ((lnAt xss k).length - 1 - j) = (lnAt xss k).length - 1 - j) := by show akN xss k j _ = _; rw [akN, if_pos h0]
  obtain ⟨xs, hxs⟩ : ∃ xs, lnAt xss k = xs := ⟨_, rfl⟩
  have hxk := lnAt_nat hk
  rw [hxs] at hxk hj
  have HXs := Lib.hid hxs
  obtain ⟨b, o, a, c', rfl, hb, hc, hrd⟩ := (HR.out.keep M2.out).at_ hxk
  have hxl := HX.out xs (List.mem_of_getElem? hxk)
  obtain ⟨⟨⟨k1, y1⟩, n1⟩, hx1⟩ : ∃ x, xs[j]? = some x := ⟨_, List.getElem?_eq_getElem hj⟩
  have hwx := HW.out xs (List.mem_of_getElem? hxk) _ (List.mem_of_getElem? hx1)
  obtain ⟨g, p, rfl, hg, hrow⟩ := hrd.at_ wcells_length hx1
  obtain ⟨d1, d2, d3⟩ := rowW hrow
  have hk0 : (0 : Int) ≤ (k : Int) := Int.natCast_nonneg _
  have hk8 : (k : Int) < xss.length := by omega
  have hj0 : (0 : Int) ≤ (j : Int) := Int.natCast_nonneg _
  have hj8 : (j : Int) < xs.length := by omega
  have HWX := Lib.hid hwx
  have HHc := Lib.hid hc
  have HHb := Lib.hid hb
  clear hv h0 ha hi hxk hxs h2 h3 V0 V1 P0 P1 hrd hrow hx1 hwx
  go_wp2_with fail
  refine (spotAt_any _ xss.length c k j k1 y1 n1 (some ⟨g, p, none⟩) xs.length c' w3 HWX.out.2 hk hl b o rfl HHb.out HHc.out).mono ?_
  rintro e w4 ⟨rfl, hb4⟩
  have HB4 : Hid (Below w.heap.size w w4) := M2.out.trans (hb4.mono M2.out.size)
  clear hb4 hc hb d1 d2 d3
  go_wp2_with fail
  refine (ahead_any k1 y1 n1 k j _ xs.length c' w4 ⟨by omega, by omega⟩ hxl).mono ?_
  rintro e w5 ⟨rfl, hb5⟩
  have HB5 : Hid (Below w.heap.size w w5) := HB4.out.trans (hb5.mono HB4.out.size)
  clear hb5
  go_wp2
  go_ret2
  exact ⟨by (rw [E1.out, E2.out, HXs.out]; first | done | rfl), HB5.out⟩
end Go.Proofs.YtpjmkcgofmfdaacDoor
