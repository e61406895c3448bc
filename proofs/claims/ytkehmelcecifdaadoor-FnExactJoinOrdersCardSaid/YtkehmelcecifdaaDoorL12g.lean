/-
  FnExactJoinOrders: for all arguments the law returns true, and they read as before. No condition but that the sentinel errors hold what the program's text lays (tied).
-/
import Derived.Test.YtkehmelcecifdaaDoorCards
import Derived.Test.YtkehmelcecifdaaDoorTie
import Derived.Test.YtkehmelcecifdaaDoorG
import Derived.Test.YtkehmelcecifdaaDoorMg2
import Derived.Test.YtkehmelcecifdaaDoorJo3
import Derived.Test.YtkehmelcecifdaaDoorMkW
import Derived.SevenTiedAt
namespace Go.Proofs.YtkehmelcecifdaaDoor
open Go.ChangeShapes Go.WideShapes Go.ChangeAt Go.RowKit Go.Deep

set_option maxRecDepth 100000 in
set_option maxHeartbeats 4000000 in
theorem joLaw_any (a : List Wnt) (b : List Wnt) (A : Option Addr) (c : Nat) (B : Option Addr) (d : Nat) (ad : Nat → Addr) (w : World) (hl0 : a.length ≤ 9223372036854775807) (hr0 : Rd w w.heap.size wcells A a) (hw0 : ∀ x ∈ a, wfW x) (hl1 : b.length ≤ 9223372036854775807) (hr1 : Rd w w.heap.size wcells B b) (hw1 : ∀ x ∈ b, wfW x) (hE : EW 7 w ad) :
    Calls Tryd.prog 6 #[.slice A a.length c, .slice B b.length d] w (Good w) := by
  have HR0 := Lib.hid hr0
  have HW0 := Lib.hid hw0
  have HR1 := Lib.hid hr1
  have HW1 := Lib.hid hw1
  have HE := Lib.hid hE
  clear hE
  clear hr0 hw0 hr1 hw1
  go_enter Tryd.func6, Tryd.ntmps6
  go_wp2_with fail
  refine (szWantS_any A a.length c (1048576) hl0 ⟨by omega, by omega⟩ _).mono ?_
  rintro e w' ⟨rfl, rfl⟩
  by_cases hn0 : (1048576 : Int) < a.length
  · rw [if_pos hn0]
    go_wp2
    go_ret
    exact ⟨rfl, Below.refl _ _⟩
  rw [if_neg hn0]
  have hz0 : (0 : Int) ≤ 1048576 - a.length := by omega
  have hm0 : a.length ≤ 1048576 := by omega
  go_wp2_with fail
  refine (szWantS_any B b.length d (1048576 - a.length) hl1 ⟨by omega, by omega⟩ _).mono ?_
  rintro e w' ⟨rfl, rfl⟩
  by_cases hn1 : (1048576 - a.length : Int) < b.length
  · rw [if_pos hn1]
    go_wp2
    go_ret
    exact ⟨rfl, Below.refl _ _⟩
  rw [if_neg hn1]
  have hz1 : (0 : Int) ≤ 1048576 - a.length - b.length := by omega
  have hm1 : b.length ≤ 1048576 := by omega
  have HB_0 : Hid (Below w.heap.size w w) := Below.refl _ _
  go_wp2_with fail
  refine (toWantS_any a A c _ hm0 (HR0.out.keep HB_0.out)).mono ?_
  rintro e w1 ⟨rfl, hR, hb⟩
  have HB_1 : Hid (Below w.heap.size w w1) := HB_0.out.trans (hb.mono HB_0.out.size)
  clear hb HB_0
  have Y0_1 : Hid (Rs w1 w.heap.size 91 wcells a) := hR
  clear hR
  go_wp2_with fail
  refine (toWantS_any b B d _ hm1 (HR1.out.keep HB_1.out)).mono ?_
  rintro e w2 ⟨rfl, hR, hb⟩
  have HB_2 : Hid (Below w.heap.size w w2) := HB_1.out.trans (hb.mono HB_1.out.size)
  have Y0_2 : Hid (Rs w2 w.heap.size 91 wcells a) := Blk.keep Y0_1.out hb
  clear hb HB_1 Y0_1
  have Y1_2 : Hid (Rs w2 w1.heap.size 91 wcells b) := hR
  clear hR
  go_wp2_with fail
  refine (specJoin_any a b HW0.out HW1.out _ _ _ _ _ hm0 hm1 (Y0_2.out.rd Y0_2.out.lt) (Y1_2.out.rd Y1_2.out.lt)).mono ?_
  rintro e w3 ⟨v0, rfl, hO0, hb⟩
  clear Y0_2
  clear Y1_2
  have HB_3 : Hid (Below w.heap.size w w3) := HB_2.out.trans (hb.mono HB_2.out.size)
  clear hb HB_2
  obtain ⟨Av0, cv0, rfl, -, hrv0⟩ := own_rd wcells_length hO0
  have RV0 : Hid (Rd w3 w3.heap.size wcells Av0 (joL a b)) := hrv0
  clear hO0 hrv0
  have HV_3 : Hid (Below w3.heap.size w3 w3) := Below.refl _ _
  obtain ⟨cd0, hcd0⟩ : ∃ c, joC a b = c := ⟨_, rfl⟩
  have HCD0 := Lib.hid hcd0
  clear hcd0
  rw [HCD0.out]
  go_wp2_with fail
  refine (toWantS_any a A c _ hm0 (HR0.out.keep HB_3.out)).mono ?_
  rintro e w4 ⟨rfl, hR, hb⟩
  have LE0 : Hid (w.heap.size ≤ w3.heap.size) := HB_3.out.size
  have LE1 : Hid (w3.heap.size ≤ w3.heap.size) := HV_3.out.size
  have HB_4 : Hid (Below w.heap.size w w4) := HB_3.out.trans (hb.mono HB_3.out.size)
  have HV_4 : Hid (Below w3.heap.size w3 w4) := HV_3.out.trans (hb.mono HV_3.out.size)
  clear hb HB_3 HV_3
  have X0_4 : Hid (Rs w4 w3.heap.size 91 wcells a) := hR
  clear hR
  go_wp2_with fail
  refine (toWantS_any b B d _ hm1 (HR1.out.keep HB_4.out)).mono ?_
  rintro e w5 ⟨rfl, hR, hb⟩
  have LE2 : Hid (w.heap.size ≤ w4.heap.size) := HB_4.out.size
  have LE3 : Hid (w3.heap.size ≤ w4.heap.size) := HV_4.out.size
  have LE4 : Hid (w3.heap.size < w4.heap.size) := X0_4.out.lt
  have HB_5 : Hid (Below w.heap.size w w5) := HB_4.out.trans (hb.mono HB_4.out.size)
  have HV_5 : Hid (Below w3.heap.size w3 w5) := HV_4.out.trans (hb.mono HV_4.out.size)
  have X0_5 : Hid (Rs w5 w3.heap.size 91 wcells a) := Blk.keep X0_4.out hb
  clear hb HB_4 HV_4 X0_4
  have X1_5 : Hid (Rs w5 w4.heap.size 91 wcells b) := hR
  clear hR
  go_wp2_with fail
  refine (implJoin_any a b HW0.out HW1.out _ _ _ _ ad _ hm0 hm1 (X0_5.out.rd X0_5.out.lt) (X1_5.out.rd X1_5.out.lt) (HE.out.below HB_5.out (Nat.le_refl _))).mono ?_
  rintro e w6 ⟨g0, rfl, hO0, hb⟩
  have LE5 : Hid (w.heap.size ≤ w5.heap.size) := HB_5.out.size
  have LE6 : Hid (w3.heap.size ≤ w5.heap.size) := HV_5.out.size
  have LE7 : Hid (w3.heap.size < w5.heap.size) := X0_5.out.lt
  have LE8 : Hid (w4.heap.size < w5.heap.size) := X1_5.out.lt
  have HB_6 : Hid (Below w.heap.size w w6) := HB_5.out.trans (hb.mono HB_5.out.size)
  have HV_6 : Hid (Below w3.heap.size w3 w6) := HV_5.out.trans (hb.mono HV_5.out.size)
  have X0_6 : Hid (Rs w6 w3.heap.size 91 wcells a) := Blk.keep X0_5.out hb
  have X1_6 : Hid (Rs w6 w4.heap.size 91 wcells b) := Blk.keep X1_5.out hb
  clear hb HB_5 HV_5 X0_5 X1_5
  rw [HCD0.out]
  obtain ⟨Ag0, cg0, rfl, -, -⟩ := own_rd wcells_length hO0
  have G0_6 := Lib.hid hO0
  clear hO0
  have hLlen := joL_len a b
  go_wp2_with fail
  refine (eqWantS_same (joL a b) _ _ _ _ _ (by omega) (own_rd2 wcells_length G0_6.out) (RV0.out.keep HV_6.out)).mono ?_
  rintro e w7 ⟨rfl, hb⟩
  have HB_7 : Hid (Below w.heap.size w w7) := HB_6.out.trans (hb.mono HB_6.out.size)
  have HV_7 : Hid (Below w3.heap.size w3 w7) := HV_6.out.trans (hb.mono HV_6.out.size)
  have X0_7 : Hid (Rs w7 w3.heap.size 91 wcells a) := Blk.keep X0_6.out hb
  have X1_7 : Hid (Rs w7 w4.heap.size 91 wcells b) := Blk.keep X1_6.out hb
  have G0_7 : Hid (w7.ownsRow w5.heap.size 91 3 (.slice Ag0 (joL a b).length cg0) (joL a b).length ((joL a b).flatMap wcells)) := own_keep' G0_6.out hb
  clear hb HB_6 HV_6 X0_6 X1_6 G0_6
  go_wp2_with fail
  refine (toWantS_any a A c _ hm0 (HR0.out.keep HB_7.out)).mono ?_
  rintro e w8 ⟨rfl, hR, hb⟩
  have HB_8 : Hid (Below w.heap.size w w8) := HB_7.out.trans (hb.mono HB_7.out.size)
  have HV_8 : Hid (Below w3.heap.size w3 w8) := HV_7.out.trans (hb.mono HV_7.out.size)
  have X0_8 : Hid (Rs w8 w3.heap.size 91 wcells a) := Blk.keep X0_7.out hb
  have X1_8 : Hid (Rs w8 w4.heap.size 91 wcells b) := Blk.keep X1_7.out hb
  have G0_8 : Hid (w8.ownsRow w5.heap.size 91 3 (.slice Ag0 (joL a b).length cg0) (joL a b).length ((joL a b).flatMap wcells)) := own_keep' G0_7.out hb
  clear hb HB_7 HV_7 X0_7 X1_7 G0_7
  have Z0_8 : Hid (Rs w8 w7.heap.size 91 wcells a) := hR
  clear hR
  go_wp2_with fail
  refine (eqWantS_same a _ _ _ _ _ (by omega) (X0_8.out.rd X0_8.out.lt) (Z0_8.out.rd Z0_8.out.lt)).mono ?_
  rintro e w9 ⟨rfl, hb⟩
  clear Z0_8
  have HB_9 : Hid (Below w.heap.size w w9) := HB_8.out.trans (hb.mono HB_8.out.size)
  have HV_9 : Hid (Below w3.heap.size w3 w9) := HV_8.out.trans (hb.mono HV_8.out.size)
  have X0_9 : Hid (Rs w9 w3.heap.size 91 wcells a) := Blk.keep X0_8.out hb
  have X1_9 : Hid (Rs w9 w4.heap.size 91 wcells b) := Blk.keep X1_8.out hb
  have G0_9 : Hid (w9.ownsRow w5.heap.size 91 3 (.slice Ag0 (joL a b).length cg0) (joL a b).length ((joL a b).flatMap wcells)) := own_keep' G0_8.out hb
  clear hb HB_8 HV_8 X0_8 X1_8 G0_8
  go_wp2_with fail
  refine (toWantS_any b B d _ hm1 (HR1.out.keep HB_9.out)).mono ?_
  rintro e w10 ⟨rfl, hR, hb⟩
  have HB_10 : Hid (Below w.heap.size w w10) := HB_9.out.trans (hb.mono HB_9.out.size)
  have HV_10 : Hid (Below w3.heap.size w3 w10) := HV_9.out.trans (hb.mono HV_9.out.size)
  have X0_10 : Hid (Rs w10 w3.heap.size 91 wcells a) := Blk.keep X0_9.out hb
  have X1_10 : Hid (Rs w10 w4.heap.size 91 wcells b) := Blk.keep X1_9.out hb
  have G0_10 : Hid (w10.ownsRow w5.heap.size 91 3 (.slice Ag0 (joL a b).length cg0) (joL a b).length ((joL a b).flatMap wcells)) := own_keep' G0_9.out hb
  clear hb HB_9 HV_9 X0_9 X1_9 G0_9
  have Z1_10 : Hid (Rs w10 w9.heap.size 91 wcells b) := hR
  clear hR
  go_wp2_with fail
  refine (eqWantS_same b _ _ _ _ _ (by omega) (X1_10.out.rd X1_10.out.lt) (Z1_10.out.rd Z1_10.out.lt)).mono ?_
  rintro e w11 ⟨rfl, hb⟩
  clear Z1_10
  have HB_11 : Hid (Below w.heap.size w w11) := HB_10.out.trans (hb.mono HB_10.out.size)
  have HV_11 : Hid (Below w3.heap.size w3 w11) := HV_10.out.trans (hb.mono HV_10.out.size)
  have X0_11 : Hid (Rs w11 w3.heap.size 91 wcells a) := Blk.keep X0_10.out hb
  have X1_11 : Hid (Rs w11 w4.heap.size 91 wcells b) := Blk.keep X1_10.out hb
  have G0_11 : Hid (w11.ownsRow w5.heap.size 91 3 (.slice Ag0 (joL a b).length cg0) (joL a b).length ((joL a b).flatMap wcells)) := own_keep' G0_10.out hb
  clear hb HB_10 HV_10 X0_10 X1_10 G0_10
  have hnn0 : (0 : Int) ≤ (a.length : Int) := Int.natCast_nonneg _
  have hnn1 : (0 : Int) ≤ (b.length : Int) := Int.natCast_nonneg _
  have SR := gk_rs wcells_length X0_11.out
  clear X0_11
  go_wp2_with fail
  refine (mkW_any a.length _ _ (1) _ (by omega) (by omega) SR).mono ?_
  rintro e w12 ⟨rfl, -, hg, -⟩
  clear SR
  have HB_12 : Hid (Below w.heap.size w w12) := HB_11.out.grown hg HB_11.out.size (fun k e => by obtain rfl := Option.some.inj e; have l0 := LE0.out; have l1 := LE1.out; have l2 := LE2.out; have l3 := LE3.out; have l4 := LE4.out; have l5 := LE5.out; have l6 := LE6.out; have l7 := LE7.out; have l8 := LE8.out; omega)
  have HV_12 : Hid (Below w3.heap.size w3 w12) := HV_11.out.grown hg HV_11.out.size (fun k e => by obtain rfl := Option.some.inj e; have l0 := LE0.out; have l1 := LE1.out; have l2 := LE2.out; have l3 := LE3.out; have l4 := LE4.out; have l5 := LE5.out; have l6 := LE6.out; have l7 := LE7.out; have l8 := LE8.out; omega)
  have X1_12 : Hid (Rs w12 w4.heap.size 91 wcells b) := gk_blk X1_11.out hg (fun e => by have e2 := Option.some.inj e; dsimp only at e2; have l0 := LE0.out; have l1 := LE1.out; have l2 := LE2.out; have l3 := LE3.out; have l4 := LE4.out; have l5 := LE5.out; have l6 := LE6.out; have l7 := LE7.out; have l8 := LE8.out; omega)
  have G0_12 : Hid (w12.ownsRow w5.heap.size 91 3 (.slice Ag0 (joL a b).length cg0) (joL a b).length ((joL a b).flatMap wcells)) := gk_own G0_11.out hg (fun k e => by obtain rfl := Option.some.inj e; dsimp only; have l0 := LE0.out; have l1 := LE1.out; have l2 := LE2.out; have l3 := LE3.out; have l4 := LE4.out; have l5 := LE5.out; have l6 := LE6.out; have l7 := LE7.out; have l8 := LE8.out; omega)
  clear hg HB_11 HV_11 X1_11 G0_11
  have SR := gk_rs wcells_length X1_12.out
  clear X1_12
  go_wp2_with fail
  refine (mkW_any b.length _ _ (1 + 3 * (a.length : Int)) _ (by omega) (by omega) SR).mono ?_
  rintro e w13 ⟨rfl, -, hg, -⟩
  clear SR
  have HB_13 : Hid (Below w.heap.size w w13) := HB_12.out.grown hg HB_12.out.size (fun k e => by obtain rfl := Option.some.inj e; have l0 := LE0.out; have l1 := LE1.out; have l2 := LE2.out; have l3 := LE3.out; have l4 := LE4.out; have l5 := LE5.out; have l6 := LE6.out; have l7 := LE7.out; have l8 := LE8.out; omega)
  have HV_13 : Hid (Below w3.heap.size w3 w13) := HV_12.out.grown hg HV_12.out.size (fun k e => by obtain rfl := Option.some.inj e; have l0 := LE0.out; have l1 := LE1.out; have l2 := LE2.out; have l3 := LE3.out; have l4 := LE4.out; have l5 := LE5.out; have l6 := LE6.out; have l7 := LE7.out; have l8 := LE8.out; omega)
  have G0_13 : Hid (w13.ownsRow w5.heap.size 91 3 (.slice Ag0 (joL a b).length cg0) (joL a b).length ((joL a b).flatMap wcells)) := gk_own G0_12.out hg (fun k e => by obtain rfl := Option.some.inj e; dsimp only; have l0 := LE0.out; have l1 := LE1.out; have l2 := LE2.out; have l3 := LE3.out; have l4 := LE4.out; have l5 := LE5.out; have l6 := LE6.out; have l7 := LE7.out; have l8 := LE8.out; omega)
  clear hg HB_12 HV_12 G0_12
  have hkn : ¬ (1 + 3 * (a.length : Int) + 3 * (b.length : Int) < 0) := by omega
  go_wp2_with fail
  refine (eqWantS_same (joL a b) _ _ _ _ _ (by omega) (own_rd2 wcells_length G0_13.out) (RV0.out.keep HV_13.out)).mono ?_
  rintro e w14 ⟨rfl, hb⟩
  have HB_14 : Hid (Below w.heap.size w w14) := HB_13.out.trans (hb.mono HB_13.out.size)
  have HV_14 : Hid (Below w3.heap.size w3 w14) := HV_13.out.trans (hb.mono HV_13.out.size)
  have G0_14 : Hid (w14.ownsRow w5.heap.size 91 3 (.slice Ag0 (joL a b).length cg0) (joL a b).length ((joL a b).flatMap wcells)) := own_keep' G0_13.out hb
  clear hb HB_13 HV_13 G0_13
  have hgn0 : (0 : Int) ≤ ((joL a b).length : Int) := Int.natCast_nonneg _
  have SR := gk_src G0_14.out
  have GE := gk_ge G0_14.out
  clear G0_14
  go_wp2_with fail
  refine (mkW_any (joL a b).length Ag0 _ (1) _ (by omega) (by omega) SR).mono ?_
  rintro e w15 ⟨rfl, hM, hg, -⟩
  clear SR
  have HB_15 : Hid (Below w.heap.size w w15) := HB_14.out.grown hg HB_14.out.size (fun k e => by have lk := GE k e; have l0 := LE0.out; have l1 := LE1.out; have l2 := LE2.out; have l3 := LE3.out; have l4 := LE4.out; have l5 := LE5.out; have l6 := LE6.out; have l7 := LE7.out; have l8 := LE8.out; omega)
  have HV_15 : Hid (Below w3.heap.size w3 w15) := HV_14.out.grown hg HV_14.out.size (fun k e => by have lk := GE k e; have l0 := LE0.out; have l1 := LE1.out; have l2 := LE2.out; have l3 := LE3.out; have l4 := LE4.out; have l5 := LE5.out; have l6 := LE6.out; have l7 := LE7.out; have l8 := LE8.out; omega)
  clear hg HB_14 HV_14
  clear GE
  have M0_15 : Hid (MkdW w15 Ag0 (joL a b).length (1)) := hM
  clear hM
  have hmn : ¬ (1 + 3 * (((joL a b).length : Nat) : Int) < 0) := by omega
  go_wp2_with fail
  refine (hdW_any (joL a b).length Ag0 _ (1) _ (by omega) (by omega) M0_15.out).mono ?_
  rintro e w' ⟨rfl, rfl⟩
  go_wp2_with fail
  refine (toWantS_any a A c _ hm0 (HR0.out.keep HB_15.out)).mono ?_
  rintro e w16 ⟨rfl, hR, hb⟩
  have HB_16 : Hid (Below w.heap.size w w16) := HB_15.out.trans (hb.mono HB_15.out.size)
  have HV_16 : Hid (Below w3.heap.size w3 w16) := HV_15.out.trans (hb.mono HV_15.out.size)
  have M0_16 : Hid (MkdW w16 Ag0 (joL a b).length (1)) := M0_15.out.below hb
  clear hb HB_15 HV_15 M0_15
  have T0_16 : Hid (Rs w16 w15.heap.size 91 wcells a) := hR
  clear hR
  go_wp2_with fail
  refine (toWantS_any b B d _ hm1 (HR1.out.keep HB_16.out)).mono ?_
  rintro e w17 ⟨rfl, hR, hb⟩
  have HB_17 : Hid (Below w.heap.size w w17) := HB_16.out.trans (hb.mono HB_16.out.size)
  have HV_17 : Hid (Below w3.heap.size w3 w17) := HV_16.out.trans (hb.mono HV_16.out.size)
  have T0_17 : Hid (Rs w17 w15.heap.size 91 wcells a) := Blk.keep T0_16.out hb
  have M0_17 : Hid (MkdW w17 Ag0 (joL a b).length (1)) := M0_16.out.below hb
  clear hb HB_16 HV_16 T0_16 M0_16
  have T1_17 : Hid (Rs w17 w16.heap.size 91 wcells b) := hR
  clear hR
  go_wp2_with fail
  refine (implJoin_any a b HW0.out HW1.out _ _ _ _ ad _ hm0 hm1 (T0_17.out.rd T0_17.out.lt) (T1_17.out.rd T1_17.out.lt) (HE.out.below HB_17.out (Nat.le_refl _))).mono ?_
  rintro e w18 ⟨h0, rfl, hO0, hb⟩
  clear T0_17
  clear T1_17
  have HB_18 : Hid (Below w.heap.size w w18) := HB_17.out.trans (hb.mono HB_17.out.size)
  have HV_18 : Hid (Below w3.heap.size w3 w18) := HV_17.out.trans (hb.mono HV_17.out.size)
  have M0_18 : Hid (MkdW w18 Ag0 (joL a b).length (1)) := M0_17.out.below hb
  clear hb HB_17 HV_17 M0_17
  rw [HCD0.out]
  obtain ⟨Ah0, ch0, rfl, -, -⟩ := own_rd wcells_length hO0
  have H0_18 := Lib.hid hO0
  clear hO0
  go_wp2_with fail
  refine (eqWantS_same (joL a b) _ _ _ _ _ (by omega) (own_rd2 wcells_length H0_18.out) (RV0.out.keep HV_18.out)).mono ?_
  rintro e w19 ⟨rfl, hb⟩
  have HB_19 : Hid (Below w.heap.size w w19) := HB_18.out.trans (hb.mono HB_18.out.size)
  have HV_19 : Hid (Below w3.heap.size w3 w19) := HV_18.out.trans (hb.mono HV_18.out.size)
  have H0_19 : Hid (w19.ownsRow w17.heap.size 91 3 (.slice Ah0 (joL a b).length ch0) (joL a b).length ((joL a b).flatMap wcells)) := own_keep' H0_18.out hb
  have M0_19 : Hid (MkdW w19 Ag0 (joL a b).length (1)) := M0_18.out.below hb
  clear hb HB_18 HV_18 H0_18 M0_18
  go_wp2_with fail
  refine (hdW_any (joL a b).length Ag0 _ (1) _ (by omega) (by omega) M0_19.out).mono ?_
  rintro e w' ⟨rfl, rfl⟩
  go_wp2
  go_ret
  exact ⟨rfl, HB_19.out⟩
end Go.Proofs.YtkehmelcecifdaaDoor
