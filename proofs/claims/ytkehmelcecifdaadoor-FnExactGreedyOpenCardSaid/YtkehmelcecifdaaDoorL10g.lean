/-
  FnExactGreedyOpen: for all arguments the law returns true, and they read as before. No condition but that the sentinel errors hold what the program's text lays (tied).
-/
import Derived.Test.YtkehmelcecifdaaDoorCards
import Derived.Test.YtkehmelcecifdaaDoorTie
import Derived.Test.YtkehmelcecifdaaDoorG
import Derived.Test.YtkehmelcecifdaaDoorMg2
import Derived.Test.YtkehmelcecifdaaDoorGo2
import Derived.Test.YtkehmelcecifdaaDoorMkN
import Derived.Test.YtkehmelcecifdaaDoorMkW
import Derived.Test.YtkehmelcecifdaaDoorMkCr
import Derived.SevenTiedAt
namespace Go.Proofs.YtkehmelcecifdaaDoor
open Go.ChangeShapes Go.WideShapes Go.ChangeAt Go.RowKit Go.Deep
theorem goL_len (xs : List Crt) (ord : List Wnt) : (goL xs ord).length ≤ 1048576 := by
  unfold goL goT
  by_cases h : askOk xs ord = true
  · by_cases h2 : lack (cntAll xs) ord = []
    · simp only [if_pos h, if_pos h2]
      have h3 := (grS_GI (xs := xs) (ordOk_num (ask_yes h).2) (xs.length + 1)).le
      have h4 := okS_len (ask_yes h).1
      omega
    · simp [h, h2]
  · simp [h]

set_option maxRecDepth 100000 in
set_option maxHeartbeats 4000000 in
theorem goLaw_any (xs : List Crt) (ord : List Wnt) (A : Option Addr) (c : Nat) (B : Option Addr) (d : Nat) (ad : Nat → Addr) (w : World) (hl0 : xs.length ≤ 9223372036854775807) (hr0 : Rd w w.heap.size kcells A xs) (hl1 : ord.length ≤ 9223372036854775807) (hr1 : Rd w w.heap.size wcells B ord) (hw1 : ∀ x ∈ ord, wfW x) (hE : EW 7 w ad) :
    Calls Tryd.prog 5 #[.slice A xs.length c, .slice B ord.length d] w (Good w) := by
  have HR0 := Lib.hid hr0
  have HR1 := Lib.hid hr1
  have HW1 := Lib.hid hw1
  have HE := Lib.hid hE
  clear hE
  clear hr0 hr1 hw1
  go_enter Tryd.func5, Tryd.ntmps5
  go_wp2_with fail
  refine (szCrateS_any A xs.length c (1048576) hl0 ⟨by omega, by omega⟩ _).mono ?_
  rintro e w' ⟨rfl, rfl⟩
  by_cases hn0 : (1048576 : Int) < xs.length
  · rw [if_pos hn0]
    go_wp2
    go_ret
    exact ⟨rfl, Below.refl _ _⟩
  rw [if_neg hn0]
  have hz0 : (0 : Int) ≤ 1048576 - xs.length := by omega
  have hm0 : xs.length ≤ 1048576 := by omega
  go_wp2_with fail
  refine (szWantS_any B ord.length d (1048576 - xs.length) hl1 ⟨by omega, by omega⟩ _).mono ?_
  rintro e w' ⟨rfl, rfl⟩
  by_cases hn1 : (1048576 - xs.length : Int) < ord.length
  · rw [if_pos hn1]
    go_wp2
    go_ret
    exact ⟨rfl, Below.refl _ _⟩
  rw [if_neg hn1]
  have hz1 : (0 : Int) ≤ 1048576 - xs.length - ord.length := by omega
  have hm1 : ord.length ≤ 1048576 := by omega
  have HB_0 : Hid (Below w.heap.size w w) := Below.refl _ _
  go_wp2_with fail
  refine (toCrateS_any xs A c _ hm0 (HR0.out.keep HB_0.out)).mono ?_
  rintro e w1 ⟨rfl, hR, hb⟩
  have HB_1 : Hid (Below w.heap.size w w1) := HB_0.out.trans (hb.mono HB_0.out.size)
  clear hb HB_0
  have Y0_1 : Hid (Rs w1 w.heap.size 109 kcells xs) := hR
  clear hR
  go_wp2_with fail
  refine (toWantS_any ord B d _ hm1 (HR1.out.keep HB_1.out)).mono ?_
  rintro e w2 ⟨rfl, hR, hb⟩
  have HB_2 : Hid (Below w.heap.size w w2) := HB_1.out.trans (hb.mono HB_1.out.size)
  have Y0_2 : Hid (Rs w2 w.heap.size 109 kcells xs) := Blk.keep Y0_1.out hb
  clear hb HB_1 Y0_1
  have Y1_2 : Hid (Rs w2 w1.heap.size 91 wcells ord) := hR
  clear hR
  go_wp2_with fail
  refine (specGreedy_any xs ord HW1.out _ _ _ _ _ hm0 hm1 (Y0_2.out.rd Y0_2.out.lt) (Y1_2.out.rd Y1_2.out.lt)).mono ?_
  rintro e w3 ⟨v0, rfl, hO0, hb⟩
  clear Y0_2
  clear Y1_2
  have HB_3 : Hid (Below w.heap.size w w3) := HB_2.out.trans (hb.mono HB_2.out.size)
  clear hb HB_2
  obtain ⟨Av0, cv0, rfl, -, hrv0⟩ := own_rd icells_length hO0
  have RV0 : Hid (Rd w3 w3.heap.size icells Av0 (goL xs ord)) := hrv0
  clear hO0 hrv0
  have HV_3 : Hid (Below w3.heap.size w3 w3) := Below.refl _ _
  obtain ⟨cd0, hcd0⟩ : ∃ c, goC xs ord = c := ⟨_, rfl⟩
  have HCD0 := Lib.hid hcd0
  clear hcd0
  rw [HCD0.out]
  go_wp2_with fail
  refine (toCrateS_any xs A c _ hm0 (HR0.out.keep HB_3.out)).mono ?_
  rintro e w4 ⟨rfl, hR, hb⟩
  have LE0 : Hid (w.heap.size ≤ w3.heap.size) := HB_3.out.size
  have LE1 : Hid (w3.heap.size ≤ w3.heap.size) := HV_3.out.size
  have HB_4 : Hid (Below w.heap.size w w4) := HB_3.out.trans (hb.mono HB_3.out.size)
  have HV_4 : Hid (Below w3.heap.size w3 w4) := HV_3.out.trans (hb.mono HV_3.out.size)
  clear hb HB_3 HV_3
  have X0_4 : Hid (Rs w4 w3.heap.size 109 kcells xs) := hR
  clear hR
  go_wp2_with fail
  refine (toWantS_any ord B d _ hm1 (HR1.out.keep HB_4.out)).mono ?_
  rintro e w5 ⟨rfl, hR, hb⟩
  have LE2 : Hid (w.heap.size ≤ w4.heap.size) := HB_4.out.size
  have LE3 : Hid (w3.heap.size ≤ w4.heap.size) := HV_4.out.size
  have LE4 : Hid (w3.heap.size < w4.heap.size) := X0_4.out.lt
  have HB_5 : Hid (Below w.heap.size w w5) := HB_4.out.trans (hb.mono HB_4.out.size)
  have HV_5 : Hid (Below w3.heap.size w3 w5) := HV_4.out.trans (hb.mono HV_4.out.size)
  have X0_5 : Hid (Rs w5 w3.heap.size 109 kcells xs) := Blk.keep X0_4.out hb
  clear hb HB_4 HV_4 X0_4
  have X1_5 : Hid (Rs w5 w4.heap.size 91 wcells ord) := hR
  clear hR
  go_wp2_with fail
  refine (implGreedy_any xs ord HW1.out _ _ _ _ ad _ hm0 hm1 (X0_5.out.rd X0_5.out.lt) (X1_5.out.rd X1_5.out.lt) (HE.out.below HB_5.out (Nat.le_refl _))).mono ?_
  rintro e w6 ⟨g0, rfl, hO0, hb⟩
  have LE5 : Hid (w.heap.size ≤ w5.heap.size) := HB_5.out.size
  have LE6 : Hid (w3.heap.size ≤ w5.heap.size) := HV_5.out.size
  have LE7 : Hid (w3.heap.size < w5.heap.size) := X0_5.out.lt
  have LE8 : Hid (w4.heap.size < w5.heap.size) := X1_5.out.lt
  have HB_6 : Hid (Below w.heap.size w w6) := HB_5.out.trans (hb.mono HB_5.out.size)
  have HV_6 : Hid (Below w3.heap.size w3 w6) := HV_5.out.trans (hb.mono HV_5.out.size)
  have X0_6 : Hid (Rs w6 w3.heap.size 109 kcells xs) := Blk.keep X0_5.out hb
  have X1_6 : Hid (Rs w6 w4.heap.size 91 wcells ord) := Blk.keep X1_5.out hb
  clear hb HB_5 HV_5 X0_5 X1_5
  rw [HCD0.out]
  obtain ⟨Ag0, cg0, rfl, -, -⟩ := own_rd icells_length hO0
  have G0_6 := Lib.hid hO0
  clear hO0
  have hLlen := goL_len xs ord
  go_wp2_with fail
  refine (eqInt64S_same (goL xs ord) _ _ _ _ _ (by omega) (own_rd2 icells_length G0_6.out) (RV0.out.keep HV_6.out)).mono ?_
  rintro e w7 ⟨rfl, hb⟩
  have HB_7 : Hid (Below w.heap.size w w7) := HB_6.out.trans (hb.mono HB_6.out.size)
  have HV_7 : Hid (Below w3.heap.size w3 w7) := HV_6.out.trans (hb.mono HV_6.out.size)
  have X0_7 : Hid (Rs w7 w3.heap.size 109 kcells xs) := Blk.keep X0_6.out hb
  have X1_7 : Hid (Rs w7 w4.heap.size 91 wcells ord) := Blk.keep X1_6.out hb
  have G0_7 : Hid (w7.ownsRow w5.heap.size 2 1 (.slice Ag0 (goL xs ord).length cg0) (goL xs ord).length ((goL xs ord).flatMap icells)) := own_keep' G0_6.out hb
  clear hb HB_6 HV_6 X0_6 X1_6 G0_6
  go_wp2_with fail
  refine (toCrateS_any xs A c _ hm0 (HR0.out.keep HB_7.out)).mono ?_
  rintro e w8 ⟨rfl, hR, hb⟩
  have HB_8 : Hid (Below w.heap.size w w8) := HB_7.out.trans (hb.mono HB_7.out.size)
  have HV_8 : Hid (Below w3.heap.size w3 w8) := HV_7.out.trans (hb.mono HV_7.out.size)
  have X0_8 : Hid (Rs w8 w3.heap.size 109 kcells xs) := Blk.keep X0_7.out hb
  have X1_8 : Hid (Rs w8 w4.heap.size 91 wcells ord) := Blk.keep X1_7.out hb
  have G0_8 : Hid (w8.ownsRow w5.heap.size 2 1 (.slice Ag0 (goL xs ord).length cg0) (goL xs ord).length ((goL xs ord).flatMap icells)) := own_keep' G0_7.out hb
  clear hb HB_7 HV_7 X0_7 X1_7 G0_7
  have Z0_8 : Hid (Rs w8 w7.heap.size 109 kcells xs) := hR
  clear hR
  go_wp2_with fail
  refine (eqCrateS_same xs _ _ _ _ _ (by omega) (X0_8.out.rd X0_8.out.lt) (Z0_8.out.rd Z0_8.out.lt)).mono ?_
  rintro e w9 ⟨rfl, hb⟩
  clear Z0_8
  have HB_9 : Hid (Below w.heap.size w w9) := HB_8.out.trans (hb.mono HB_8.out.size)
  have HV_9 : Hid (Below w3.heap.size w3 w9) := HV_8.out.trans (hb.mono HV_8.out.size)
  have X0_9 : Hid (Rs w9 w3.heap.size 109 kcells xs) := Blk.keep X0_8.out hb
  have X1_9 : Hid (Rs w9 w4.heap.size 91 wcells ord) := Blk.keep X1_8.out hb
  have G0_9 : Hid (w9.ownsRow w5.heap.size 2 1 (.slice Ag0 (goL xs ord).length cg0) (goL xs ord).length ((goL xs ord).flatMap icells)) := own_keep' G0_8.out hb
  clear hb HB_8 HV_8 X0_8 X1_8 G0_8
  go_wp2_with fail
  refine (toWantS_any ord B d _ hm1 (HR1.out.keep HB_9.out)).mono ?_
  rintro e w10 ⟨rfl, hR, hb⟩
  have HB_10 : Hid (Below w.heap.size w w10) := HB_9.out.trans (hb.mono HB_9.out.size)
  have HV_10 : Hid (Below w3.heap.size w3 w10) := HV_9.out.trans (hb.mono HV_9.out.size)
  have X0_10 : Hid (Rs w10 w3.heap.size 109 kcells xs) := Blk.keep X0_9.out hb
  have X1_10 : Hid (Rs w10 w4.heap.size 91 wcells ord) := Blk.keep X1_9.out hb
  have G0_10 : Hid (w10.ownsRow w5.heap.size 2 1 (.slice Ag0 (goL xs ord).length cg0) (goL xs ord).length ((goL xs ord).flatMap icells)) := own_keep' G0_9.out hb
  clear hb HB_9 HV_9 X0_9 X1_9 G0_9
  have Z1_10 : Hid (Rs w10 w9.heap.size 91 wcells ord) := hR
  clear hR
  go_wp2_with fail
  refine (eqWantS_same ord _ _ _ _ _ (by omega) (X1_10.out.rd X1_10.out.lt) (Z1_10.out.rd Z1_10.out.lt)).mono ?_
  rintro e w11 ⟨rfl, hb⟩
  clear Z1_10
  have HB_11 : Hid (Below w.heap.size w w11) := HB_10.out.trans (hb.mono HB_10.out.size)
  have HV_11 : Hid (Below w3.heap.size w3 w11) := HV_10.out.trans (hb.mono HV_10.out.size)
  have X0_11 : Hid (Rs w11 w3.heap.size 109 kcells xs) := Blk.keep X0_10.out hb
  have X1_11 : Hid (Rs w11 w4.heap.size 91 wcells ord) := Blk.keep X1_10.out hb
  have G0_11 : Hid (w11.ownsRow w5.heap.size 2 1 (.slice Ag0 (goL xs ord).length cg0) (goL xs ord).length ((goL xs ord).flatMap icells)) := own_keep' G0_10.out hb
  clear hb HB_10 HV_10 X0_10 X1_10 G0_10
  have hnn0 : (0 : Int) ≤ (xs.length : Int) := Int.natCast_nonneg _
  have hnn1 : (0 : Int) ≤ (ord.length : Int) := Int.natCast_nonneg _
  go_wp2_with fail
  refine (mkCr_any xs.length _ _ (1) _ hm0).mono ?_
  rintro e w' ⟨rfl, rfl⟩
  clear X0_11
  have SR := gk_rs wcells_length X1_11.out
  clear X1_11
  go_wp2_with fail
  refine (mkW_any ord.length _ _ (1) _ (by omega) (by omega) SR).mono ?_
  rintro e w12 ⟨rfl, -, hg, -⟩
  clear SR
  have HB_12 : Hid (Below w.heap.size w w12) := HB_11.out.grown hg HB_11.out.size (fun k e => by obtain rfl := Option.some.inj e; have l0 := LE0.out; have l1 := LE1.out; have l2 := LE2.out; have l3 := LE3.out; have l4 := LE4.out; have l5 := LE5.out; have l6 := LE6.out; have l7 := LE7.out; have l8 := LE8.out; omega)
  have HV_12 : Hid (Below w3.heap.size w3 w12) := HV_11.out.grown hg HV_11.out.size (fun k e => by obtain rfl := Option.some.inj e; have l0 := LE0.out; have l1 := LE1.out; have l2 := LE2.out; have l3 := LE3.out; have l4 := LE4.out; have l5 := LE5.out; have l6 := LE6.out; have l7 := LE7.out; have l8 := LE8.out; omega)
  have G0_12 : Hid (w12.ownsRow w5.heap.size 2 1 (.slice Ag0 (goL xs ord).length cg0) (goL xs ord).length ((goL xs ord).flatMap icells)) := gk_own G0_11.out hg (fun k e => by obtain rfl := Option.some.inj e; dsimp only; have l0 := LE0.out; have l1 := LE1.out; have l2 := LE2.out; have l3 := LE3.out; have l4 := LE4.out; have l5 := LE5.out; have l6 := LE6.out; have l7 := LE7.out; have l8 := LE8.out; omega)
  clear hg HB_11 HV_11 G0_11
  have hkn : ¬ (1 + 3 * (ord.length : Int) < 0) := by omega
  go_wp2_with fail
  refine (eqInt64S_same (goL xs ord) _ _ _ _ _ (by omega) (own_rd2 icells_length G0_12.out) (RV0.out.keep HV_12.out)).mono ?_
  rintro e w13 ⟨rfl, hb⟩
  have HB_13 : Hid (Below w.heap.size w w13) := HB_12.out.trans (hb.mono HB_12.out.size)
  have HV_13 : Hid (Below w3.heap.size w3 w13) := HV_12.out.trans (hb.mono HV_12.out.size)
  have G0_13 : Hid (w13.ownsRow w5.heap.size 2 1 (.slice Ag0 (goL xs ord).length cg0) (goL xs ord).length ((goL xs ord).flatMap icells)) := own_keep' G0_12.out hb
  clear hb HB_12 HV_12 G0_12
  have hgn0 : (0 : Int) ≤ ((goL xs ord).length : Int) := Int.natCast_nonneg _
  have SR := gk_src G0_13.out
  have GE := gk_ge G0_13.out
  clear G0_13
  go_wp2_with fail
  refine (mkN_any (goL xs ord).length Ag0 _ (1) _ (by omega) (by omega) SR).mono ?_
  rintro e w14 ⟨rfl, hM, hg, -⟩
  clear SR
  have HB_14 : Hid (Below w.heap.size w w14) := HB_13.out.grown hg HB_13.out.size (fun k e => by have lk := GE k e; have l0 := LE0.out; have l1 := LE1.out; have l2 := LE2.out; have l3 := LE3.out; have l4 := LE4.out; have l5 := LE5.out; have l6 := LE6.out; have l7 := LE7.out; have l8 := LE8.out; omega)
  have HV_14 : Hid (Below w3.heap.size w3 w14) := HV_13.out.grown hg HV_13.out.size (fun k e => by have lk := GE k e; have l0 := LE0.out; have l1 := LE1.out; have l2 := LE2.out; have l3 := LE3.out; have l4 := LE4.out; have l5 := LE5.out; have l6 := LE6.out; have l7 := LE7.out; have l8 := LE8.out; omega)
  clear hg HB_13 HV_13
  clear GE
  have M0_14 : Hid (MkdN w14 Ag0 (goL xs ord).length (1)) := hM
  clear hM
  have hmn : ¬ (1 + 1 * (((goL xs ord).length : Nat) : Int) < 0) := by omega
  go_wp2_with fail
  refine (hdN_any (goL xs ord).length Ag0 _ (1) _ (by omega) (by omega) M0_14.out).mono ?_
  rintro e w' ⟨rfl, rfl⟩
  go_wp2_with fail
  refine (toCrateS_any xs A c _ hm0 (HR0.out.keep HB_14.out)).mono ?_
  rintro e w15 ⟨rfl, hR, hb⟩
  have HB_15 : Hid (Below w.heap.size w w15) := HB_14.out.trans (hb.mono HB_14.out.size)
  have HV_15 : Hid (Below w3.heap.size w3 w15) := HV_14.out.trans (hb.mono HV_14.out.size)
  have M0_15 : Hid (MkdN w15 Ag0 (goL xs ord).length (1)) := M0_14.out.below hb
  clear hb HB_14 HV_14 M0_14
  have T0_15 : Hid (Rs w15 w14.heap.size 109 kcells xs) := hR
  clear hR
  go_wp2_with fail
  refine (toWantS_any ord B d _ hm1 (HR1.out.keep HB_15.out)).mono ?_
  rintro e w16 ⟨rfl, hR, hb⟩
  have HB_16 : Hid (Below w.heap.size w w16) := HB_15.out.trans (hb.mono HB_15.out.size)
  have HV_16 : Hid (Below w3.heap.size w3 w16) := HV_15.out.trans (hb.mono HV_15.out.size)
  have T0_16 : Hid (Rs w16 w14.heap.size 109 kcells xs) := Blk.keep T0_15.out hb
  have M0_16 : Hid (MkdN w16 Ag0 (goL xs ord).length (1)) := M0_15.out.below hb
  clear hb HB_15 HV_15 T0_15 M0_15
  have T1_16 : Hid (Rs w16 w15.heap.size 91 wcells ord) := hR
  clear hR
  go_wp2_with fail
  refine (implGreedy_any xs ord HW1.out _ _ _ _ ad _ hm0 hm1 (T0_16.out.rd T0_16.out.lt) (T1_16.out.rd T1_16.out.lt) (HE.out.below HB_16.out (Nat.le_refl _))).mono ?_
  rintro e w17 ⟨h0, rfl, hO0, hb⟩
  clear T0_16
  clear T1_16
  have HB_17 : Hid (Below w.heap.size w w17) := HB_16.out.trans (hb.mono HB_16.out.size)
  have HV_17 : Hid (Below w3.heap.size w3 w17) := HV_16.out.trans (hb.mono HV_16.out.size)
  have M0_17 : Hid (MkdN w17 Ag0 (goL xs ord).length (1)) := M0_16.out.below hb
  clear hb HB_16 HV_16 M0_16
  rw [HCD0.out]
  obtain ⟨Ah0, ch0, rfl, -, -⟩ := own_rd icells_length hO0
  have H0_17 := Lib.hid hO0
  clear hO0
  go_wp2_with fail
  refine (eqInt64S_same (goL xs ord) _ _ _ _ _ (by omega) (own_rd2 icells_length H0_17.out) (RV0.out.keep HV_17.out)).mono ?_
  rintro e w18 ⟨rfl, hb⟩
  have HB_18 : Hid (Below w.heap.size w w18) := HB_17.out.trans (hb.mono HB_17.out.size)
  have HV_18 : Hid (Below w3.heap.size w3 w18) := HV_17.out.trans (hb.mono HV_17.out.size)
  have H0_18 : Hid (w18.ownsRow w16.heap.size 2 1 (.slice Ah0 (goL xs ord).length ch0) (goL xs ord).length ((goL xs ord).flatMap icells)) := own_keep' H0_17.out hb
  have M0_18 : Hid (MkdN w18 Ag0 (goL xs ord).length (1)) := M0_17.out.below hb
  clear hb HB_17 HV_17 H0_17 M0_17
  go_wp2_with fail
  refine (hdN_any (goL xs ord).length Ag0 _ (1) _ (by omega) (by omega) M0_18.out).mono ?_
  rintro e w' ⟨rfl, rfl⟩
  go_wp2
  go_ret
  exact ⟨rfl, HB_18.out⟩
end Go.Proofs.YtkehmelcecifdaaDoor
