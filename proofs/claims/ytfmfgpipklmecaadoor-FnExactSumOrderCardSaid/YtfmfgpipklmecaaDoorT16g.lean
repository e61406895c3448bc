/-
  FnExactSumOrder: for all arguments the law returns true, and they read as before. No condition but that the sentinel errors hold what the program's text lays (tied).
-/
import Derived.Test.YtfmfgpipklmecaaDoorCards
import Derived.Test.YtfmfgpipklmecaaDoorTie
import Derived.Test.YtfmfgpipklmecaaDoorG
import Derived.Test.YtfmfgpipklmecaaDoorSd2
import Derived.Test.YtfmfgpipklmecaaDoorGk
import Derived.Test.YtfmfgpipklmecaaDoorMkM
import Derived.SevenTiedAt
namespace Go.Proofs.YtfmfgpipklmecaaDoor
open Go.ChangeShapes Go.WideShapes Go.ChangeAt Go.RowKit Go.Deep

set_option maxRecDepth 100000 in
set_option maxHeartbeats 4000000 in
theorem sd7Law_any (m : List (List Int)) (A : Option Addr) (c : Nat) (n : Int) (ad : Nat → Addr) (w : World) (hl0 : m.length ≤ 9223372036854775807) (hr0 : RdN w w.heap.size icells A m) (hx0 : ∀ xs ∈ m, xs.length ≤ 9223372036854775807) (hw0 : ∀ xs ∈ m, ∀ x ∈ xs, wfI x) (hsn : wfI6 n) (hE : EW 7 w ad) :
    Calls Tryd.prog 5 #[.int .i64 n, .slice A m.length c] w (Good w) := by
  have HR0 := Lib.hid hr0
  have HW0 := Lib.hid hw0
  have HSn := Lib.hid hsn
  have HE := Lib.hid hE
  clear hE
  clear hr0 hw0 hsn
  go_enter Tryd.func5, Tryd.ntmps5
  go_wp2_with fail
  refine (szMarks_any m A c (1048576) hl0 hx0 ⟨by omega, by omega⟩ _ HR0.out).mono ?_
  rintro e w' ⟨rfl, rfl⟩
  by_cases hn0 : (1048576 : Int) < (m.length + sumL m)
  · rw [if_pos hn0]
    go_wp2
    go_ret
    exact ⟨rfl, (Below.refl _ _)⟩
  rw [if_neg hn0]
  have hz0 : (0 : Int) ≤ 1048576 - (m.length + sumL m) := by omega
  have hm0 : m.length ≤ 1048576 := by omega
  have hsm0 : sumL m ≤ 1048576 := by omega
  have hxm0 : ∀ xs ∈ m, xs.length ≤ 1048576 := fun xs hxs => by obtain ⟨j, hj, rfl⟩ := List.mem_iff_getElem.1 hxs; have := le_sumL (List.getElem?_eq_getElem hj); omega
  have HB_0 : Hid (Below w.heap.size w w) := Below.refl _ _
  go_wp2_with fail
  refine (toMarks_any m A c _ hm0 hxm0 (HR0.out.keep HB_0.out)).mono ?_
  rintro e w1 ⟨rfl, ⟨gsY0, hR⟩, hb⟩
  have HB_1 : Hid (Below w.heap.size w w1) := HB_0.out.trans (hb.mono HB_0.out.size)
  clear hb HB_0
  have Y0_1 : Hid (RsN w1 w.heap.size 23 2 icells m gsY0) := hR
  clear hR
  go_wp2_with fail
  refine (specSumOrder_any n m _ _ _ hm0 hxm0 Y0_1.out.rd).mono ?_
  rintro e w2 ⟨v0, rfl, hO0, hb⟩
  clear Y0_1
  have HB_2 : Hid (Below w.heap.size w w2) := HB_1.out.trans (hb.mono HB_1.out.size)
  clear hb HB_1
  obtain ⟨Av0, cv0, rfl, -, hrv0⟩ := own_rd icells_length hO0
  have RV0 : Hid (Rd w2 w2.heap.size icells Av0 (sdA n m)) := hrv0
  clear hO0 hrv0
  have HV_2 : Hid (Below w2.heap.size w2 w2) := Below.refl _ _
  obtain ⟨cd0, hcd0⟩ : ∃ c, mkC n m = c := ⟨_, rfl⟩
  have HCD0 := Lib.hid hcd0
  clear hcd0
  rw [HCD0.out]
  go_wp2_with fail
  refine (toMarks_any m A c _ hm0 hxm0 (HR0.out.keep HB_2.out)).mono ?_
  rintro e w3 ⟨rfl, ⟨gsX0, hR⟩, hb⟩
  have LE0 : Hid (w.heap.size ≤ w2.heap.size) := HB_2.out.size
  have LE1 : Hid (w2.heap.size ≤ w2.heap.size) := HV_2.out.size
  have HB_3 : Hid (Below w.heap.size w w3) := HB_2.out.trans (hb.mono HB_2.out.size)
  have HV_3 : Hid (Below w2.heap.size w2 w3) := HV_2.out.trans (hb.mono HV_2.out.size)
  clear hb HB_2 HV_2
  have X0_3 : Hid (RsN w3 w2.heap.size 23 2 icells m gsX0) := hR
  clear hR
  go_wp2_with fail
  refine (implSumOrder_any n m _ _ ad _ hm0 hxm0 X0_3.out.rd (HE.out.below HB_3.out (Nat.le_refl _))).mono ?_
  rintro e w4 ⟨g0, rfl, hO0, hb⟩
  have HXS0 := Lib.hid (mk_src X0_3.out).2.2.2.2.2
  have LE2 : Hid (w.heap.size ≤ w3.heap.size) := HB_3.out.size
  have LE3 : Hid (w2.heap.size ≤ w3.heap.size) := HV_3.out.size
  have LE4 : Hid (w2.heap.size < w3.heap.size) := X0_3.out.lt
  have LE5 : Hid (w3.heap.size ≤ w4.heap.size) := hb.size
  have HB_4 : Hid (Below w.heap.size w w4) := HB_3.out.trans (hb.mono HB_3.out.size)
  have HV_4 : Hid (Below w2.heap.size w2 w4) := HV_3.out.trans (hb.mono HV_3.out.size)
  have X0_4 : Hid (RsN w4 w2.heap.size 23 2 icells m gsX0) := X0_3.out.keep hb
  clear hb HB_3 HV_3 X0_3
  rw [HCD0.out]
  obtain ⟨Ag0, cg0, rfl, -, -⟩ := own_rd icells_length hO0
  have G0_4 := Lib.hid hO0
  clear hO0
  have hLlen := sdA_len n m
  go_wp2_with fail
  refine (eqInt64S_same (sdA n m) _ _ _ _ _ (by omega) (own_rd2 icells_length G0_4.out) (RV0.out.keep HV_4.out)).mono ?_
  rintro e w5 ⟨rfl, hb⟩
  have HB_5 : Hid (Below w.heap.size w w5) := HB_4.out.trans (hb.mono HB_4.out.size)
  have HV_5 : Hid (Below w2.heap.size w2 w5) := HV_4.out.trans (hb.mono HV_4.out.size)
  have X0_5 : Hid (RsN w5 w2.heap.size 23 2 icells m gsX0) := X0_4.out.keep hb
  have G0_5 : Hid (w5.ownsRow w3.heap.size 2 1 (.slice Ag0 (sdA n m).length cg0) (sdA n m).length ((sdA n m).flatMap icells)) := own_keep' G0_4.out hb
  clear hb HB_4 HV_4 X0_4 G0_4
  go_wp2_with fail
  refine (toMarks_any m A c _ hm0 hxm0 (HR0.out.keep HB_5.out)).mono ?_
  rintro e w6 ⟨rfl, ⟨gsZ0, hR⟩, hb⟩
  have HB_6 : Hid (Below w.heap.size w w6) := HB_5.out.trans (hb.mono HB_5.out.size)
  have HV_6 : Hid (Below w2.heap.size w2 w6) := HV_5.out.trans (hb.mono HV_5.out.size)
  have X0_6 : Hid (RsN w6 w2.heap.size 23 2 icells m gsX0) := X0_5.out.keep hb
  have G0_6 : Hid (w6.ownsRow w3.heap.size 2 1 (.slice Ag0 (sdA n m).length cg0) (sdA n m).length ((sdA n m).flatMap icells)) := own_keep' G0_5.out hb
  clear hb HB_5 HV_5 X0_5 G0_5
  have Z0_6 : Hid (RsN w6 w5.heap.size 23 2 icells m gsZ0) := hR
  clear hR
  go_wp2_with fail
  refine (eqMarks_same m _ _ _ _ _ (by omega) hxm0 X0_6.out.rd Z0_6.out.rd).mono ?_
  rintro e w7 ⟨rfl, hb⟩
  clear Z0_6
  have HB_7 : Hid (Below w.heap.size w w7) := HB_6.out.trans (hb.mono HB_6.out.size)
  have HV_7 : Hid (Below w2.heap.size w2 w7) := HV_6.out.trans (hb.mono HV_6.out.size)
  have X0_7 : Hid (RsN w7 w2.heap.size 23 2 icells m gsX0) := X0_6.out.keep hb
  have G0_7 : Hid (w7.ownsRow w3.heap.size 2 1 (.slice Ag0 (sdA n m).length cg0) (sdA n m).length ((sdA n m).flatMap icells)) := own_keep' G0_6.out hb
  clear hb HB_6 HV_6 X0_6 G0_6
  have hnn0 : (0 : Int) ≤ (m.length : Int) := Int.natCast_nonneg _
  obtain ⟨q1, q2, q3, q4, q5, q6⟩ := mk_src X0_7.out
  clear X0_7
  go_wp2_with fail
  refine (mkMarks_any m _ _ _ (1) _ (by omega) (by omega) hm0 q1 q2 q3 q4 q5).mono ?_
  rintro e w8 ⟨rfl, -, hO⟩
  have hS := HXS0.out
  clear q1 q2 q3 q4 q5 q6 HXS0
  have HB_8 : Hid (Below w.heap.size w w8) := hO.below HB_7.out HB_7.out.size (fun k e => by have lk := hS k e; have l0 := LE0.out; have l1 := LE1.out; have l2 := LE2.out; have l3 := LE3.out; have l4 := LE4.out; have l5 := LE5.out; omega)
  have HV_8 : Hid (Below w2.heap.size w2 w8) := hO.below HV_7.out HV_7.out.size (fun k e => by have lk := hS k e; have l0 := LE0.out; have l1 := LE1.out; have l2 := LE2.out; have l3 := LE3.out; have l4 := LE4.out; have l5 := LE5.out; omega)
  have G0_8 : Hid (w8.ownsRow w3.heap.size 2 1 (.slice Ag0 (sdA n m).length cg0) (sdA n m).length ((sdA n m).flatMap icells)) := hO.own G0_7.out (fun k e e2 => by have lk := hS k e2; have lo := (own_block G0_7.out e).1; have l0 := LE0.out; have l1 := LE1.out; have l2 := LE2.out; have l3 := LE3.out; have l4 := LE4.out; have l5 := LE5.out; omega)
  clear hO hS HB_7 HV_7 G0_7
  have hnx0 : (0 : Int) ≤ (sumL m : Int) := Int.natCast_nonneg _
  have hkn : ¬ (1 + (sumL m : Int) < 0) := by omega
  go_wp2_with fail
  refine (eqInt64S_same (sdA n m) _ _ _ _ _ (by omega) (own_rd2 icells_length G0_8.out) (RV0.out.keep HV_8.out)).mono ?_
  rintro e w9 ⟨rfl, hb⟩
  have HB_9 : Hid (Below w.heap.size w w9) := HB_8.out.trans (hb.mono HB_8.out.size)
  have HV_9 : Hid (Below w2.heap.size w2 w9) := HV_8.out.trans (hb.mono HV_8.out.size)
  have G0_9 : Hid (w9.ownsRow w3.heap.size 2 1 (.slice Ag0 (sdA n m).length cg0) (sdA n m).length ((sdA n m).flatMap icells)) := own_keep' G0_8.out hb
  clear hb HB_8 HV_8 G0_8
  have hgn0 : (0 : Int) ≤ ((sdA n m).length : Int) := Int.natCast_nonneg _
  have SR := gk_src G0_9.out
  have GE := gk_ge G0_9.out
  clear G0_9
  go_wp2_with fail
  refine (mkN_any (sdA n m).length Ag0 _ (1) _ (by omega) (by omega) SR).mono ?_
  rintro e w10 ⟨rfl, hM, hg, -⟩
  clear SR
  have HB_10 : Hid (Below w.heap.size w w10) := HB_9.out.grown hg HB_9.out.size (fun k e => by have lk := GE k e; have l0 := LE0.out; have l1 := LE1.out; have l2 := LE2.out; have l3 := LE3.out; have l4 := LE4.out; have l5 := LE5.out; omega)
  have HV_10 : Hid (Below w2.heap.size w2 w10) := HV_9.out.grown hg HV_9.out.size (fun k e => by have lk := GE k e; have l0 := LE0.out; have l1 := LE1.out; have l2 := LE2.out; have l3 := LE3.out; have l4 := LE4.out; have l5 := LE5.out; omega)
  clear hg HB_9 HV_9
  clear GE
  have M0_10 : Hid (MkdN w10 Ag0 (sdA n m).length (1)) := hM
  clear hM
  have hmn : ¬ (1 + 1 * (((sdA n m).length : Nat) : Int) < 0) := by omega
  go_wp2_with fail
  refine (hdN_any (sdA n m).length Ag0 _ (1) _ (by omega) (by omega) M0_10.out).mono ?_
  rintro e w' ⟨rfl, rfl⟩
  go_wp2_with fail
  refine (toMarks_any m A c _ hm0 hxm0 (HR0.out.keep HB_10.out)).mono ?_
  rintro e w11 ⟨rfl, ⟨gsT0, hR⟩, hb⟩
  have HB_11 : Hid (Below w.heap.size w w11) := HB_10.out.trans (hb.mono HB_10.out.size)
  have HV_11 : Hid (Below w2.heap.size w2 w11) := HV_10.out.trans (hb.mono HV_10.out.size)
  have M0_11 : Hid (MkdN w11 Ag0 (sdA n m).length (1)) := M0_10.out.below hb
  clear hb HB_10 HV_10 M0_10
  have T0_11 : Hid (RsN w11 w10.heap.size 23 2 icells m gsT0) := hR
  clear hR
  go_wp2_with fail
  refine (implSumOrder_any n m _ _ ad _ hm0 hxm0 T0_11.out.rd (HE.out.below HB_11.out (Nat.le_refl _))).mono ?_
  rintro e w12 ⟨h0, rfl, hO0, hb⟩
  clear T0_11
  have HB_12 : Hid (Below w.heap.size w w12) := HB_11.out.trans (hb.mono HB_11.out.size)
  have HV_12 : Hid (Below w2.heap.size w2 w12) := HV_11.out.trans (hb.mono HV_11.out.size)
  have M0_12 : Hid (MkdN w12 Ag0 (sdA n m).length (1)) := M0_11.out.below hb
  clear hb HB_11 HV_11 M0_11
  rw [HCD0.out]
  obtain ⟨Ah0, ch0, rfl, -, -⟩ := own_rd icells_length hO0
  have H0_12 := Lib.hid hO0
  clear hO0
  go_wp2_with fail
  refine (eqInt64S_same (sdA n m) _ _ _ _ _ (by omega) (own_rd2 icells_length H0_12.out) (RV0.out.keep HV_12.out)).mono ?_
  rintro e w13 ⟨rfl, hb⟩
  have HB_13 : Hid (Below w.heap.size w w13) := HB_12.out.trans (hb.mono HB_12.out.size)
  have HV_13 : Hid (Below w2.heap.size w2 w13) := HV_12.out.trans (hb.mono HV_12.out.size)
  have H0_13 : Hid (w13.ownsRow w11.heap.size 2 1 (.slice Ah0 (sdA n m).length ch0) (sdA n m).length ((sdA n m).flatMap icells)) := own_keep' H0_12.out hb
  have M0_13 : Hid (MkdN w13 Ag0 (sdA n m).length (1)) := M0_12.out.below hb
  clear hb HB_12 HV_12 H0_12 M0_12
  go_wp2_with fail
  refine (hdN_any (sdA n m).length Ag0 _ (1) _ (by omega) (by omega) M0_13.out).mono ?_
  rintro e w' ⟨rfl, rfl⟩
  go_wp2
  go_ret
  exact ⟨rfl, HB_13.out⟩
end Go.Proofs.YtfmfgpipklmecaaDoor
