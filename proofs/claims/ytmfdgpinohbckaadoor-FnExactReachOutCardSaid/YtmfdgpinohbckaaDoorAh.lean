/-
  The contracts of AheadOf, of the model and of the program, and of what they call. Condition: the rack reads as lists of things that are stored, whose numbers fit their kinds, not more than 1048576; the sentinel errors lie as the row lists them (the program's).
-/
import Derived.Test.YtmfdgpinohbckaaDoorMg3
import Derived.Test.YtmfdgpinohbckaaDoorMg4
namespace Go.Proofs.YtmfdgpinohbckaaDoor
open Go.ChangeShapes Go.WideShapes Go.ChangeAt Go.RowKit Go.Deep

/-- Is a number an index? -/
def inB (l : Int) (n : Nat) : Bool := decide (0 ≤ l) && decide (l < n)
/-- A lane; a spot in a rack. -/
def lnAt (xss : List (List Wnt)) (l : Int) : List Wnt := xss.getD l.toNat []
def spotOk (xss : List (List Wnt)) (l i : Int) : Bool := inB l xss.length && inB i (lnAt xss l).length
theorem inB_nat {l : Int} {n : Nat} (h : inB l n = true) : ∃ k : Nat, l = k ∧ k < n := by
  simp only [inB, Bool.and_eq_true, decide_eq_true_eq] at h
  exact ⟨l.toNat, (Int.toNat_of_nonneg h.1).symm, by omega⟩
theorem lnAt_nat {xss : List (List Wnt)} {k : Nat} (h : k < xss.length) : xss[k]? = some (lnAt xss k) := by simp [lnAt, h]
/-- The code of a function of a rack, a lane and an index; a number that it tells. -/
def akC (xss : List (List Wnt)) (l i : Int) : Int := if rkOk xss = true then (if spotOk xss l i = true then 0 else 2) else 1
def akN (xss : List (List Wnt)) (l i : Int) (n : Int) : Int := if akC xss l i = 0 then n else 0

theorem l04Lane_any (n c : Nat) (A : Option Addr) (l : Int) (w : World) (hn : n ≤ 1048576) :
    Calls Tryd.prog 61 #[.slice A n c, .int .i64 l] w fun e w' => e = .returned (.bool (inB l n)) ∧ w = w' := by
  have hn0 : (0 : Int) ≤ (n : Int) := Int.natCast_nonneg _
  have hw1 : IntKind.i64.wrap ((n : Int) - 1) = (n : Int) - 1 := IntWalk.i64_in _ ⟨by omega, by omega⟩
  have hw2 : wrap64 ((n : Int) - 1) = (n : Int) - 1 := IntWalk.wrap64_in _ ⟨by omega, by omega⟩
  go_enter Tryd.func61, Tryd.ntmps61
  go_wp2_with fail
  refine (l00In_any _ _ _ _).mono ?_
  rintro e w1 ⟨rfl, rfl⟩
  go_wp2
  go_ret
  refine ⟨ret_bool ?_, rfl⟩
  unfold inB
  congr 1
  rw [decide_eq_decide]; omega

set_option maxHeartbeats 1000000 in
theorem l04Asked_any (xss : List (List Wnt)) (hwf : ∀ xs ∈ xss, ∀ x ∈ xs, wfW x) (A : Option Addr) (c : Nat) (l i : Int) (w : World) (hl : xss.length ≤ 1048576) (hx : ∀ xs ∈ xss, xs.length ≤ 1048576) (hr : RdN w w.heap.size wcells A xss) :
    Calls Tryd.prog 37 #[.slice A xss.length c, .int .i64 l, .int .i64 i] w fun e w' => e = .returned (.int .i64 (akC xss l i)) ∧ Below w.heap.size w w' := by
  have HR := Lib.hid hr
  have HW := Lib.hid hwf
  have HX := Lib.hid hx
  clear hr hwf hx
  go_enter Tryd.func37, Tryd.ntmps37
  go_wp2_with fail
  refine (l04Ok_any xss HW.out A c w hl HX.out HR.out).mono ?_
  rintro e w1 ⟨rfl, hb⟩
  have HB := Lib.hid hb
  clear hb
  cases hv : rkOk xss
  · have E1 : Hid (akC xss l i = 1) := by show akC xss l i = 1; simp [akC, hv]
    clear hv
    go_wp2
    go_ret
    exact ⟨by (rw [E1.out]; first | done | rfl), HB.out⟩
  have HV := Lib.hid hv
  clear hv
  go_wp2_with fail
  refine (l04Lane_any xss.length c A l _ hl).mono ?_
  rintro e w2 ⟨rfl, rfl⟩
  cases hi : inB l xss.length
  · have E1 : Hid (akC xss l i = 2) := by show akC xss l i = 2; simp [akC, HV.out, spotOk, hi]
    clear hi
    go_wp2
    go_ret
    exact ⟨by (rw [E1.out]; first | done | rfl), HB.out⟩
  obtain ⟨k, rfl, hk⟩ := inB_nat hi
  have HI := Lib.hid hi
  clear hi
  obtain ⟨xs, hxs⟩ : ∃ xs, lnAt xss k = xs := ⟨_, rfl⟩
  have hxk := lnAt_nat hk
  rw [hxs] at hxk
  have HXs := Lib.hid hxs
  obtain ⟨b, o, a, c', rfl, hb, hc, -⟩ := (HR.out.keep HB.out).at_ hxk
  have hxl := HX.out xs (List.mem_of_getElem? hxk)
  have hk0 : (0 : Int) ≤ (k : Int) := Int.natCast_nonneg _
  have hk8 : (k : Int) < xss.length := by omega
  have hn0 : (0 : Int) ≤ (xs.length : Int) := Int.natCast_nonneg _
  have hw1 : IntKind.i64.wrap ((xs.length : Int) - 1) = (xs.length : Int) - 1 := IntWalk.i64_in _ ⟨by omega, by omega⟩
  have hw2 : wrap64 ((xs.length : Int) - 1) = (xs.length : Int) - 1 := IntWalk.wrap64_in _ ⟨by omega, by omega⟩
  clear hxk hxs
  go_wp2_with fail
  refine (l00In_any _ _ _ _).mono ?_
  rintro e w3 ⟨rfl, rfl⟩
  have e1 : (decide (0 ≤ i) && decide (i ≤ (xs.length : Int) - 1)) = inB i xs.length := by
    unfold inB
    congr 1
    rw [decide_eq_decide]; omega
  rw [e1]
  clear e1 hw1 hw2
  cases hj : inB i xs.length
  · have E1 : Hid (akC xss k i = 2) := by show akC xss k i = 2; simp [akC, HV.out, spotOk, HI.out, HXs.out, hj]
    clear hj
    go_wp2
    go_ret
    exact ⟨by (rw [E1.out]; first | done | rfl), HB.out⟩
  · have E1 : Hid (akC xss k i = 0) := by show akC xss k i = 0; simp [akC, HV.out, spotOk, HI.out, HXs.out, hj]
    clear hj
    go_wp2
    go_ret
    exact ⟨by (rw [E1.out]; first | done | rfl), HB.out⟩

theorem akC_yes {xss : List (List Wnt)} {l i : Int} (h : akC xss l i = 0) : rkOk xss = true ∧ inB l xss.length = true ∧ inB i (lnAt xss l).length = true := by
  unfold akC at h
  split at h
  · split at h
    · have hs : spotOk xss l i = true := by assumption
      simp only [spotOk, Bool.and_eq_true] at hs
      exact ⟨by assumption, hs⟩
    · cases h
  · cases h
theorem akC_cases (xss : List (List Wnt)) (l i : Int) : akC xss l i = 0 ∨ akC xss l i = 1 ∨ akC xss l i = 2 := by
  unfold akC; split
  · split <;> simp
  · simp

theorem checkIdx1_any (i : Int) (n : Nat) (B c : Nat) (ad : Nat → Addr) (w : World) (hn : n ≤ 1048576) (h0 : w.cell? ⟨B, 0, none⟩ = some (.int .i64 i)) (hE : EW 7 w ad) :
    Calls Tryd.prog 67 #[.slice (some ⟨B, 0, none⟩) 1 c, .int .i64 n] w fun e w' => e = .returned (erV ad 0 (inB i n)) ∧ w = w' := by
  have c0 : w.cell? ⟨2, 0, none⟩ = some (.iface 165 (.pointer (some (ad 0)))) := hE.cell 0 (by omega)
  clear hE
  by_cases h1 : i < 0
  · have E1 : Hid (inB i n = false) := by show inB i n = false; simp [inB]; omega
    go_enter Tryd.func67, Tryd.ntmps67
    go_wp2
    refine wp_loop_rounds 2 ?_
    rw [rounds_succ]
    go_wp2
    go_ret
    exact ⟨by rw [E1.out]; rfl, rfl⟩
  have h1d : decide (i < 0) = false := decide_eq_false h1
  by_cases h2 : (n : Int) ≤ i
  · have E1 : Hid (inB i n = false) := by show inB i n = false; simp [inB]; omega
    go_enter Tryd.func67, Tryd.ntmps67
    go_wp2
    refine wp_loop_rounds 2 ?_
    rw [rounds_succ]
    go_wp2
    go_ret
    exact ⟨by rw [E1.out]; rfl, rfl⟩
  have h2d : decide ((n : Int) ≤ i) = false := decide_eq_false h2
  have E1 : Hid (inB i n = true) := by show inB i n = true; simp [inB]; omega
  go_enter Tryd.func67, Tryd.ntmps67
  go_wp2
  refine wp_loop_rounds 2 ?_
  rw [rounds_succ]
  go_wp2
  rw [rounds_succ]
  go_wp2
  go_ret
  exact ⟨by rw [E1.out]; rfl, rfl⟩

theorem new_cell (W : World) (v : Value) (t : TypeId) : (W.alloc (.cells #[v] t)).cell? ⟨W.heap.size, 0, none⟩ = some v := by
  rw [cell_of_row _ _ _ _ _ _ (heap_alloc_new W (.cells #[v] t))]; rfl
theorem erV0_no (ad : Nat → Addr) : erV ad 0 false = .iface 165 (.pointer (some (ad 0))) := rfl
set_option maxHeartbeats 1000000 in
theorem checkLane_any (n c : Nat) (A : Option Addr) (l : Int) (ad : Nat → Addr) (w : World) (hn : n ≤ 1048576) (hE : EW 7 w ad) :
    Calls Tryd.prog 66 #[.slice A n c, .int .i64 l] w fun e w' => e = .returned (erV ad 0 (inB l n)) ∧ Below w.heap.size w w' := by
  have HE := Lib.hid hE
  clear hE
  go_enter Tryd.func66, Tryd.ntmps66
  go_wp2_with fail
  have hA : Below w.heap.size w (w.alloc (.cells #[.int .i64 l] 2)) := (Below.refl _ _).alloc (Nat.le_refl _) _
  refine (checkIdx1_any l n w.heap.size _ ad _ hn (new_cell w _ _) (HE.out.below hA (Nat.le_refl _))).mono ?_
  rintro e w1 ⟨rfl, rfl⟩
  have HA := Lib.hid hA
  obtain ⟨v, hv⟩ : ∃ v, erV ad 0 (inB l n) = v := ⟨_, rfl⟩
  have HV := Lib.hid hv
  rw [hv]
  clear hv hA
  go_wp2
  go_ret
  exact ⟨by (rw [HV.out]; first | done | rfl), HA.out⟩

set_option maxHeartbeats 1000000 in
theorem checkSpot_any (xss : List (List Wnt)) (A : Option Addr) (c : Nat) (l i : Int) (ad : Nat → Addr) (w : World) (hl : xss.length ≤ 1048576) (hx : ∀ xs ∈ xss, xs.length ≤ 1048576) (hr : RdN w w.heap.size wcells A xss) (hE : EW 7 w ad) :
    Calls Tryd.prog 41 #[.slice A xss.length c, .int .i64 l, .int .i64 i] w fun e w' => e = .returned (erV ad 0 (spotOk xss l i)) ∧ Below w.heap.size w w' := by
  have HE := Lib.hid hE
  have HR := Lib.hid hr
  have HX := Lib.hid hx
  clear hE hr hx
  go_enter Tryd.func41, Tryd.ntmps41
  go_wp2_with fail
  refine (checkLane_any xss.length c A l ad w hl HE.out).mono ?_
  rintro e w1 ⟨rfl, hb⟩
  have HB := Lib.hid hb
  clear hb
  cases hi : inB l xss.length
  · have E1 : Hid (spotOk xss l i = false) := by show spotOk xss l i = false; simp [spotOk, hi]
    clear hi
    rw [erV0_no]
    go_wp2
    go_ret
    exact ⟨by rw [E1.out]; rfl, HB.out⟩
  obtain ⟨k, rfl, hk⟩ := inB_nat hi
  have HI := Lib.hid hi
  clear hi
  rw [erV_yes]
  obtain ⟨xs, hxs⟩ : ∃ xs, lnAt xss k = xs := ⟨_, rfl⟩
  have hxk := lnAt_nat hk
  rw [hxs] at hxk
  have HXs := Lib.hid hxs
  obtain ⟨b, o, a, c', rfl, hb, hc, -⟩ := (HR.out.keep HB.out).at_ hxk
  have hxl := HX.out xs (List.mem_of_getElem? hxk)
  have hk0 : (0 : Int) ≤ (k : Int) := Int.natCast_nonneg _
  have hk8 : (k : Int) < xss.length := by omega
  have hne : b ≠ w1.heap.size := by omega
  clear hxk hxs
  go_wp2_with fail
  have hA : Below w1.heap.size w1 (w1.alloc (.cells #[.int .i64 i] 2)) := (Below.refl _ _).alloc (Nat.le_refl _) _
  have hA2 : Below w.heap.size w (w1.alloc (.cells #[.int .i64 i] 2)) := HB.out.trans (hA.mono HB.out.size)
  refine (checkIdx1_any i xs.length w1.heap.size _ ad _ hxl (new_cell w1 _ _) (HE.out.below hA2 (Nat.le_refl _))).mono ?_
  rintro e w2 ⟨rfl, rfl⟩
  have HA := Lib.hid hA2
  have E1 : Hid (spotOk xss k i = inB i xs.length) := by show spotOk xss k i = _; simp [spotOk, HI.out, HXs.out]
  obtain ⟨v, hv⟩ : ∃ v, erV ad 0 (inB i xs.length) = v := ⟨_, rfl⟩
  have HV := Lib.hid hv
  rw [hv]
  clear hv hA hA2
  go_wp2
  go_ret
  exact ⟨by (rw [E1.out, HV.out]; first | done | rfl), HA.out⟩

end Go.Proofs.YtmfdgpinohbckaaDoor
