/-
  FnExactReachOut: for all arguments the law returns true, and they read as before. No condition but that the sentinel errors hold what the program's text lays (tied).
-/
import Derived.Test.YtmfdgpinohbckaaDoorCards
import Derived.Test.YtmfdgpinohbckaaDoorTie
import Derived.Test.YtmfdgpinohbckaaDoorG
import Derived.Test.YtmfdgpinohbckaaDoorKo6
import Derived.Test.YtmfdgpinohbckaaDoorMkRk
import Derived.SevenTiedAt
namespace Go.Proofs.YtmfdgpinohbckaaDoor
open Go.ChangeShapes Go.WideShapes Go.ChangeAt Go.RowKit Go.Deep

theorem ro_bounds {xss : List (List Wnt)} (hwf : ∀ xs ∈ xss, ∀ x ∈ xs, wfW x) (l i : Int) : (roL xss l i).length ≤ 8 ∧ ∀ zs ∈ roL xss l i, zs.length ≤ 6 := by
  by_cases h0 : akC xss l i = 0
  · obtain ⟨h1, h2, h3⟩ := akC_yes h0
    obtain ⟨k, rfl, hk⟩ := inB_nat h2
    obtain ⟨j, rfl, hj⟩ := inB_nat h3
    rw [(ro_yes h0 rfl).1]
    have h6 : ∀ xs ∈ xss, xs.length ≤ 6 := fun xs h => (rkOk_lane h1 h).1
    cases hS : rcS xss k (lnAt xss k) ((lnAt xss k).length - 1 - j) with
    | none => rw [(rcB_no hS).1]; simp
    | some r =>
      obtain ⟨o1, -, o3, -⟩ := rcS_ok (lnAt_nat hk) h6 hwf _ (by omega) r hS
      rw [(rcB_yes hS (List.getElem?_eq_getElem hj)).1]
      refine ⟨by rw [List.length_set, o1]; exact rkOk_len h1, fun zs hz => ?_⟩
      rcases List.mem_or_eq_of_mem_set hz with h | rfl
      · exact o3 zs h
      · rw [List.length_take]; have := h6 _ (List.mem_of_getElem? (lnAt_nat hk)); omega
  · rw [(ro_no h0).1]; simp
theorem sum_boundR {T : Type} : ∀ (xss : List (List T)) (m : Nat), (∀ xs ∈ xss, xs.length ≤ m) → sumL xss ≤ xss.length * m
  | [], _, _ => by simp [sumL]
  | xs :: xss, m, h => by
    have h1 := sum_boundR xss m (fun ys hy => h ys (List.mem_cons_of_mem _ hy))
    have h2 := h xs (List.mem_cons_self ..)
    unfold sumL at h1 ⊢
    simp only [List.map_cons, List.sum_cons, List.length_cons, Nat.succ_mul]
    omega

set_option maxRecDepth 100000 in
set_option maxHeartbeats 4000000 in
theorem roLaw_any (xss : List (List Wnt)) (A : Option Addr) (c : Nat) (l i : Int) (ad : Nat → Addr) (w : World) (hl0 : xss.length ≤ 9223372036854775807) (hr0 : RdN w w.heap.size wcells A xss) (hx0 : ∀ xs ∈ xss, xs.length ≤ 9223372036854775807) (hw0 : ∀ xs ∈ xss, ∀ x ∈ xs, wfW x) (hE : EW 7 w ad) :
    Calls Tryd.prog 3 #[.slice A xss.length c, .int .i64 l, .int .i64 i] w (Good w) := by
  have HR0 := Lib.hid hr0
  have HW0 := Lib.hid hw0
  have HE := Lib.hid hE
  clear hE hr0 hw0
  have HB_0 : Hid (Below w.heap.size w w) := Below.refl _ w
  go_enter Tryd.func3, Tryd.ntmps3
  go_wp2_with fail
  refine (szRack_any xss A c (1048576) hl0 hx0 ⟨by omega, by omega⟩ _ HR0.out).mono ?_
  rintro e w' ⟨rfl, rfl⟩
  by_cases hn0 : (1048576 : Int) < (xss.length + sumL xss)
  · rw [if_pos hn0]
    go_wp2
    go_ret
    exact ⟨rfl, HB_0.out⟩
  rw [if_neg hn0]
  have hz0 : (0 : Int) ≤ 1048576 - (xss.length + sumL xss) := by omega
  have hm0 : xss.length ≤ 1048576 := by omega
  have hsm0 : sumL xss ≤ 1048576 := by omega
  have hxm0 : ∀ xs ∈ xss, xs.length ≤ 1048576 := fun xs hxs => by obtain ⟨j, hj, rfl⟩ := List.mem_iff_getElem.1 hxs; have := le_sumL (List.getElem?_eq_getElem hj); omega
  obtain ⟨L, hL⟩ : ∃ L, roL xss l i = L := ⟨_, rfl⟩
  obtain ⟨cd, hcd⟩ : ∃ cd, roC xss l i = cd := ⟨_, rfl⟩
  obtain ⟨⟨⟨k1, y1⟩, n1⟩, hxx⟩ : ∃ x, roX xss l i = x := ⟨_, rfl⟩
  obtain ⟨mv, hmv⟩ : ∃ m : Nat, roM xss l i = m := ⟨_, rfl⟩
  have hLs := ro_bounds HW0.out l i
  rw [hL] at hLs
  have hLl : L.length ≤ 1048576 := by have := hLs.1; omega
  have hLx : ∀ ys ∈ L, ys.length ≤ 1048576 := fun ys hy => by have := hLs.2 ys hy; omega
  have HLx := Lib.hid hLx
  have hLn : sumL L ≤ 1000 := by have := sum_boundR L 6 hLs.2; have := hLs.1; omega
  clear hLs hLx hx0 hl0
  have HS : Hid (∀ A c w, RdN w w.heap.size wcells A xss → Calls Tryd.prog 9 #[.slice A xss.length c, .int .i64 l, .int .i64 i] w fun e w' => ∃ A' c', e = .returned (.tuple #[.slice A' L.length c', .agg #[.int .u8 k1, .int .i16 y1, .int .i16 n1], .int .i64 mv, .int .i64 cd]) ∧ RdN w' w'.heap.size wcells A' L ∧ Below w.heap.size w w') := by
    have := fun A c w hr => specReachOut_any xss HW0.out A c l i w hm0 hxm0 hr
    rw [hL, hcd, hxx, hmv] at this; exact this
  have HI : Hid (∀ A c w, RdN w w.heap.size wcells A xss → EW 7 w ad → Calls Tryd.prog 11 #[.slice A xss.length c, .int .i64 l, .int .i64 i] w fun e w' => ∃ A' c' hs, e = .returned (.tuple #[.slice A' L.length c', .agg #[.int .u8 k1, .int .i16 y1, .int .i16 n1], .int .i64 mv, .int .i64 cd]) ∧ OwnN w' w.heap.size 44 30 3 wcells A' c' hs L ∧ Below w.heap.size w w') := by
    have := fun A c w hr hE => implReachOut_any xss HW0.out A c l i ad w hm0 hxm0 hr hE
    rw [hL, hcd, hxx, hmv] at this; exact this
  clear hL hcd hxx hmv
  go_wp2_with fail
  refine (toRack_any xss A c _ hm0 hxm0 (HR0.out.keep HB_0.out)).mono ?_
  rintro e w1 ⟨rfl, ⟨gsS, hR⟩, hb⟩
  have HB_1 : Hid (Below w.heap.size w w1) := HB_0.out.trans (hb.mono HB_0.out.size)
  clear hb HB_0
  have S_1 : Hid (RsN w1 w.heap.size 44 30 wcells xss gsS) := hR
  clear hR
  go_wp2_with fail
  refine (HS.out _ _ _ S_1.out.rd).mono ?_
  rintro e w2 ⟨A0, c0, rfl, hV, hb⟩
  clear S_1
  have HB_2 : Hid (Below w.heap.size w w2) := HB_1.out.trans (hb.mono HB_1.out.size)
  clear hb HB_1
  have RV : Hid (RdN w2 w2.heap.size wcells A0 L) := hV
  clear hV
  have HV_2 : Hid (Below w2.heap.size w2 w2) := Below.refl _ _
  go_wp2_with fail
  obtain ⟨w3, hww3⟩ : ∃ v, w2.alloc (.cells #[.int .u8 k1, .int .i16 y1, .int .i16 n1] 30) = v := ⟨_, rfl⟩
  have hb : Below w2.heap.size w2 w3 := by rw [← hww3]; exact (Below.refl _ _).alloc (Nat.le_refl _) _
  have hK : Blk w3 w2.heap.size 30 #[.int .u8 k1, .int .i16 y1, .int .i16 n1] := by rw [← hww3]; exact Blk.new w2 _ _
  rw [hww3]
  clear hww3
  have HB_3 : Hid (Below w.heap.size w w3) := HB_2.out.trans (hb.mono HB_2.out.size)
  have HV_3 : Hid (Below w2.heap.size w2 w3) := HV_2.out.trans (hb.mono HV_2.out.size)
  clear hb HB_2 HV_2
  have K0_3 := Lib.hid hK
  clear hK
  go_wp2_with fail
  refine (toRack_any xss A c _ hm0 hxm0 (HR0.out.keep HB_3.out)).mono ?_
  rintro e w4 ⟨rfl, ⟨gsX, hR⟩, hb⟩
  have LE0 : Hid (w.heap.size ≤ w3.heap.size) := HB_3.out.size
  have LE1 : Hid (w2.heap.size ≤ w3.heap.size) := HV_3.out.size
  have LE2 : Hid (w2.heap.size < w3.heap.size) := K0_3.out.lt
  have HB_4 : Hid (Below w.heap.size w w4) := HB_3.out.trans (hb.mono HB_3.out.size)
  have HV_4 : Hid (Below w2.heap.size w2 w4) := HV_3.out.trans (hb.mono HV_3.out.size)
  have K0_4 : Hid (Blk w4 w2.heap.size 30 #[.int .u8 k1, .int .i16 y1, .int .i16 n1]) := K0_3.out.keep hb
  clear hb HB_3 HV_3 K0_3
  have X_4 : Hid (RsN w4 w3.heap.size 44 30 wcells xss gsX) := hR
  clear hR
  go_wp2_with fail
  refine (HI.out _ _ _ X_4.out.rd (HE.out.below HB_4.out (Nat.le_refl _))).mono ?_
  rintro e w5 ⟨Ag, cg, hsg, rfl, hN, hb⟩
  have HXS := Lib.hid (rk_src X_4.out).2.2.2.2.2
  have LE3 : Hid (w.heap.size ≤ w4.heap.size) := HB_4.out.size
  have LE4 : Hid (w2.heap.size ≤ w4.heap.size) := HV_4.out.size
  have LE5 : Hid (w2.heap.size < w4.heap.size) := K0_4.out.lt
  have LE6 : Hid (w4.heap.size ≤ w5.heap.size) := hb.size
  have HB_5 : Hid (Below w.heap.size w w5) := HB_4.out.trans (hb.mono HB_4.out.size)
  have HV_5 : Hid (Below w2.heap.size w2 w5) := HV_4.out.trans (hb.mono HV_4.out.size)
  have K0_5 : Hid (Blk w5 w2.heap.size 30 #[.int .u8 k1, .int .i16 y1, .int .i16 n1]) := K0_4.out.keep hb
  have X_5 : Hid (RsN w5 w3.heap.size 44 30 wcells xss gsX) := X_4.out.keep hb
  clear hb HB_4 HV_4 K0_4 X_4
  have HGS := Lib.hid (own_src hN).2.2.2.2.2
  have GN_5 := Lib.hid hN
  clear hN
  go_wp2_with fail
  obtain ⟨w6, hww6⟩ : ∃ v, w5.alloc (.cells #[.int .u8 k1, .int .i16 y1, .int .i16 n1] 30) = v := ⟨_, rfl⟩
  have hb : Below w5.heap.size w5 w6 := by rw [← hww6]; exact (Below.refl _ _).alloc (Nat.le_refl _) _
  have hK : Blk w6 w5.heap.size 30 #[.int .u8 k1, .int .i16 y1, .int .i16 n1] := by rw [← hww6]; exact Blk.new w5 _ _
  rw [hww6]
  clear hww6
  have HB_6 : Hid (Below w.heap.size w w6) := HB_5.out.trans (hb.mono HB_5.out.size)
  have HV_6 : Hid (Below w2.heap.size w2 w6) := HV_5.out.trans (hb.mono HV_5.out.size)
  have K0_6 : Hid (Blk w6 w2.heap.size 30 #[.int .u8 k1, .int .i16 y1, .int .i16 n1]) := K0_5.out.keep hb
  have X_6 : Hid (RsN w6 w3.heap.size 44 30 wcells xss gsX) := X_5.out.keep hb
  have GN_6 : Hid (OwnN w6 w4.heap.size 44 30 3 wcells Ag cg hsg (L)) := GN_5.out.keep hb
  clear hb HB_5 HV_5 K0_5 X_5 GN_5
  have K1_6 := Lib.hid hK
  clear hK
  go_wp2_with fail
  refine (eqRack_same L _ _ _ _ _ hLl HLx.out (GN_6.out.rd wcells_length) (RV.out.keep HV_6.out)).mono ?_
  rintro e w7 ⟨rfl, hb⟩
  have HB_7 : Hid (Below w.heap.size w w7) := HB_6.out.trans (hb.mono HB_6.out.size)
  have HV_7 : Hid (Below w2.heap.size w2 w7) := HV_6.out.trans (hb.mono HV_6.out.size)
  have K0_7 : Hid (Blk w7 w2.heap.size 30 #[.int .u8 k1, .int .i16 y1, .int .i16 n1]) := K0_6.out.keep hb
  have X_7 : Hid (RsN w7 w3.heap.size 44 30 wcells xss gsX) := X_6.out.keep hb
  have GN_7 : Hid (OwnN w7 w4.heap.size 44 30 3 wcells Ag cg hsg (L)) := GN_6.out.keep hb
  have K1_7 : Hid (Blk w7 w5.heap.size 30 #[.int .u8 k1, .int .i16 y1, .int .i16 n1]) := K1_6.out.keep hb
  clear hb HB_6 HV_6 K0_6 X_6 GN_6 K1_6
  have d00 : w7.cell? ⟨w5.heap.size, 0, none⟩ = some (.int .u8 k1) := K1_7.out.cell 0
  have d01 : w7.cell? ⟨w5.heap.size, 1, none⟩ = some (.int .i16 y1) := K1_7.out.cell 1
  have d02 : w7.cell? ⟨w5.heap.size, 2, none⟩ = some (.int .i16 n1) := K1_7.out.cell 2
  have d10 : w7.cell? ⟨w2.heap.size, 0, none⟩ = some (.int .u8 k1) := K0_7.out.cell 0
  have d11 : w7.cell? ⟨w2.heap.size, 1, none⟩ = some (.int .i16 y1) := K0_7.out.cell 1
  have d12 : w7.cell? ⟨w2.heap.size, 2, none⟩ = some (.int .i16 n1) := K0_7.out.cell 2
  go_wp2_with fail
  refine (eqStored_same ((k1, y1), n1) _).mono ?_
  rintro e w8 ⟨rfl, hb⟩
  clear d00 d01 d02 d10 d11 d12
  have HB_8 : Hid (Below w.heap.size w w8) := HB_7.out.trans (hb.mono HB_7.out.size)
  have HV_8 : Hid (Below w2.heap.size w2 w8) := HV_7.out.trans (hb.mono HV_7.out.size)
  have K0_8 : Hid (Blk w8 w2.heap.size 30 #[.int .u8 k1, .int .i16 y1, .int .i16 n1]) := K0_7.out.keep hb
  have X_8 : Hid (RsN w8 w3.heap.size 44 30 wcells xss gsX) := X_7.out.keep hb
  have GN_8 : Hid (OwnN w8 w4.heap.size 44 30 3 wcells Ag cg hsg (L)) := GN_7.out.keep hb
  have K1_8 : Hid (Blk w8 w5.heap.size 30 #[.int .u8 k1, .int .i16 y1, .int .i16 n1]) := K1_7.out.keep hb
  clear hb HB_7 HV_7 K0_7 X_7 GN_7 K1_7
  go_wp2_with fail
  refine (toRack_any xss A c _ hm0 hxm0 (HR0.out.keep HB_8.out)).mono ?_
  rintro e w9 ⟨rfl, ⟨gsZ, hR⟩, hb⟩
  have HB_9 : Hid (Below w.heap.size w w9) := HB_8.out.trans (hb.mono HB_8.out.size)
  have HV_9 : Hid (Below w2.heap.size w2 w9) := HV_8.out.trans (hb.mono HV_8.out.size)
  have K0_9 : Hid (Blk w9 w2.heap.size 30 #[.int .u8 k1, .int .i16 y1, .int .i16 n1]) := K0_8.out.keep hb
  have X_9 : Hid (RsN w9 w3.heap.size 44 30 wcells xss gsX) := X_8.out.keep hb
  have GN_9 : Hid (OwnN w9 w4.heap.size 44 30 3 wcells Ag cg hsg (L)) := GN_8.out.keep hb
  have K1_9 : Hid (Blk w9 w5.heap.size 30 #[.int .u8 k1, .int .i16 y1, .int .i16 n1]) := K1_8.out.keep hb
  clear hb HB_8 HV_8 K0_8 X_8 GN_8 K1_8
  have Z_9 : Hid (RsN w9 w8.heap.size 44 30 wcells xss gsZ) := hR
  clear hR
  go_wp2_with fail
  refine (eqRack_same xss _ _ _ _ _ hm0 hxm0 X_9.out.rd Z_9.out.rd).mono ?_
  rintro e w10 ⟨rfl, hb⟩
  clear Z_9
  have HB_10 : Hid (Below w.heap.size w w10) := HB_9.out.trans (hb.mono HB_9.out.size)
  have HV_10 : Hid (Below w2.heap.size w2 w10) := HV_9.out.trans (hb.mono HV_9.out.size)
  have K0_10 : Hid (Blk w10 w2.heap.size 30 #[.int .u8 k1, .int .i16 y1, .int .i16 n1]) := K0_9.out.keep hb
  have X_10 : Hid (RsN w10 w3.heap.size 44 30 wcells xss gsX) := X_9.out.keep hb
  have GN_10 : Hid (OwnN w10 w4.heap.size 44 30 3 wcells Ag cg hsg (L)) := GN_9.out.keep hb
  have K1_10 : Hid (Blk w10 w5.heap.size 30 #[.int .u8 k1, .int .i16 y1, .int .i16 n1]) := K1_9.out.keep hb
  clear hb HB_9 HV_9 K0_9 X_9 GN_9 K1_9
  obtain ⟨q1, q2, q3, q4, q5, q6⟩ := rk_src X_10.out
  clear X_10
  go_wp2_with fail
  refine (mkRk_any xss _ _ _ (1) _ (by omega) (by omega) hm0 q1 q2 q3 q4 q5).mono ?_
  rintro e w11 ⟨rfl, -, hO⟩
  have hS := HXS.out
  clear q1 q2 q3 q4 q5 q6 HXS
  have HB_11 : Hid (Below w.heap.size w w11) := hO.below HB_10.out HB_10.out.size (fun k e => by have lk := hS k e; have l0 := LE0.out; have l1 := LE1.out; have l2 := LE2.out; have l3 := LE3.out; have l4 := LE4.out; have l5 := LE5.out; have l6 := LE6.out; omega)
  have HV_11 : Hid (Below w2.heap.size w2 w11) := hO.below HV_10.out HV_10.out.size (fun k e => by have lk := hS k e; have l0 := LE0.out; have l1 := LE1.out; have l2 := LE2.out; have l3 := LE3.out; have l4 := LE4.out; have l5 := LE5.out; have l6 := LE6.out; omega)
  have K0_11 : Hid (Blk w11 w2.heap.size 30 #[.int .u8 k1, .int .i16 y1, .int .i16 n1]) := hO.blk K0_10.out (fun e => by have lk := hS _ e; have l0 := LE0.out; have l1 := LE1.out; have l2 := LE2.out; have l3 := LE3.out; have l4 := LE4.out; have l5 := LE5.out; have l6 := LE6.out; omega)
  have GN_11 : Hid (OwnN w11 w4.heap.size 44 30 3 wcells Ag cg hsg (L)) := GN_10.out.only hO (fun k e => by have lk := hS k e; have l0 := LE0.out; have l1 := LE1.out; have l2 := LE2.out; have l3 := LE3.out; have l4 := LE4.out; have l5 := LE5.out; have l6 := LE6.out; omega)
  have K1_11 : Hid (Blk w11 w5.heap.size 30 #[.int .u8 k1, .int .i16 y1, .int .i16 n1]) := hO.blk K1_10.out (fun e => by have lk := hS _ e; have l0 := LE0.out; have l1 := LE1.out; have l2 := LE2.out; have l3 := LE3.out; have l4 := LE4.out; have l5 := LE5.out; have l6 := LE6.out; omega)
  clear hO hS HB_10 HV_10 K0_10 GN_10 K1_10
  have hnn0 : (0 : Int) ≤ (sumL xss : Int) := Int.natCast_nonneg _
  have hkn : ¬ (1 + 3 * (sumL xss : Int) < 0) := by omega
  go_wp2_with fail
  refine (eqRack_same L _ _ _ _ _ hLl HLx.out (GN_11.out.rd wcells_length) (RV.out.keep HV_11.out)).mono ?_
  rintro e w12 ⟨rfl, hb⟩
  have HB_12 : Hid (Below w.heap.size w w12) := HB_11.out.trans (hb.mono HB_11.out.size)
  have HV_12 : Hid (Below w2.heap.size w2 w12) := HV_11.out.trans (hb.mono HV_11.out.size)
  have K0_12 : Hid (Blk w12 w2.heap.size 30 #[.int .u8 k1, .int .i16 y1, .int .i16 n1]) := K0_11.out.keep hb
  have GN_12 : Hid (OwnN w12 w4.heap.size 44 30 3 wcells Ag cg hsg (L)) := GN_11.out.keep hb
  have K1_12 : Hid (Blk w12 w5.heap.size 30 #[.int .u8 k1, .int .i16 y1, .int .i16 n1]) := K1_11.out.keep hb
  clear hb HB_11 HV_11 K0_11 GN_11 K1_11
  have d00 : w12.cell? ⟨w5.heap.size, 0, none⟩ = some (.int .u8 k1) := K1_12.out.cell 0
  have d01 : w12.cell? ⟨w5.heap.size, 1, none⟩ = some (.int .i16 y1) := K1_12.out.cell 1
  have d02 : w12.cell? ⟨w5.heap.size, 2, none⟩ = some (.int .i16 n1) := K1_12.out.cell 2
  have d10 : w12.cell? ⟨w2.heap.size, 0, none⟩ = some (.int .u8 k1) := K0_12.out.cell 0
  have d11 : w12.cell? ⟨w2.heap.size, 1, none⟩ = some (.int .i16 y1) := K0_12.out.cell 1
  have d12 : w12.cell? ⟨w2.heap.size, 2, none⟩ = some (.int .i16 n1) := K0_12.out.cell 2
  go_wp2_with fail
  refine (eqStored_same ((k1, y1), n1) _).mono ?_
  rintro e w13 ⟨rfl, hb⟩
  clear d00 d01 d02 d10 d11 d12
  have HB_13 : Hid (Below w.heap.size w w13) := HB_12.out.trans (hb.mono HB_12.out.size)
  have HV_13 : Hid (Below w2.heap.size w2 w13) := HV_12.out.trans (hb.mono HV_12.out.size)
  have K0_13 : Hid (Blk w13 w2.heap.size 30 #[.int .u8 k1, .int .i16 y1, .int .i16 n1]) := K0_12.out.keep hb
  have GN_13 : Hid (OwnN w13 w4.heap.size 44 30 3 wcells Ag cg hsg (L)) := GN_12.out.keep hb
  have K1_13 : Hid (Blk w13 w5.heap.size 30 #[.int .u8 k1, .int .i16 y1, .int .i16 n1]) := K1_12.out.keep hb
  clear hb HB_12 HV_12 K0_12 GN_12 K1_12
  clear K1_13
  obtain ⟨q1, q2, q3, q4, q5, q6⟩ := own_src GN_13.out
  clear GN_13
  go_wp2_with fail
  refine (mkRk_any L hsg Ag _ (1) _ (by omega) (by omega) hLl q1 q2 q3 q4 q5).mono ?_
  rintro e w14 ⟨rfl, hM, hO⟩
  have hS := HGS.out
  clear q1 q2 q3 q4 q5 q6 HGS
  have HB_14 : Hid (Below w.heap.size w w14) := hO.below HB_13.out HB_13.out.size (fun k e => by have lk := hS k e; have l0 := LE0.out; have l1 := LE1.out; have l2 := LE2.out; have l3 := LE3.out; have l4 := LE4.out; have l5 := LE5.out; have l6 := LE6.out; omega)
  have HV_14 : Hid (Below w2.heap.size w2 w14) := hO.below HV_13.out HV_13.out.size (fun k e => by have lk := hS k e; have l0 := LE0.out; have l1 := LE1.out; have l2 := LE2.out; have l3 := LE3.out; have l4 := LE4.out; have l5 := LE5.out; have l6 := LE6.out; omega)
  have K0_14 : Hid (Blk w14 w2.heap.size 30 #[.int .u8 k1, .int .i16 y1, .int .i16 n1]) := hO.blk K0_13.out (fun e => by have lk := hS _ e; have l0 := LE0.out; have l1 := LE1.out; have l2 := LE2.out; have l3 := LE3.out; have l4 := LE4.out; have l5 := LE5.out; have l6 := LE6.out; omega)
  clear hO hS HB_13 HV_13 K0_13
  have MG_14 : Hid (MkdN w14 Ag hsg (L) 1) := hM
  clear hM
  have hnn1 : (0 : Int) ≤ (sumL L : Int) := Int.natCast_nonneg _
  have hmn : ¬ (1 + 3 * (sumL L : Int) < 0) := by omega
  go_wp2_with fail
  refine (hdRk_any L hsg Ag _ (1) _ (by omega) (by omega) hLl MG_14.out).mono ?_
  rintro e w' ⟨rfl, rfl⟩
  go_wp2_with fail
  refine (toRack_any xss A c _ hm0 hxm0 (HR0.out.keep HB_14.out)).mono ?_
  rintro e w15 ⟨rfl, ⟨gsY, hR⟩, hb⟩
  have HB_15 : Hid (Below w.heap.size w w15) := HB_14.out.trans (hb.mono HB_14.out.size)
  have HV_15 : Hid (Below w2.heap.size w2 w15) := HV_14.out.trans (hb.mono HV_14.out.size)
  have K0_15 : Hid (Blk w15 w2.heap.size 30 #[.int .u8 k1, .int .i16 y1, .int .i16 n1]) := K0_14.out.keep hb
  have MG_15 : Hid (MkdN w15 Ag hsg (L) 1) := MG_14.out.below hb
  clear hb HB_14 HV_14 K0_14 MG_14
  have Y_15 : Hid (RsN w15 w14.heap.size 44 30 wcells xss gsY) := hR
  clear hR
  go_wp2_with fail
  refine (HI.out _ _ _ Y_15.out.rd (HE.out.below HB_15.out (Nat.le_refl _))).mono ?_
  rintro e w16 ⟨A2, c2, hs2, rfl, hN, hb⟩
  clear Y_15
  have HB_16 : Hid (Below w.heap.size w w16) := HB_15.out.trans (hb.mono HB_15.out.size)
  have HV_16 : Hid (Below w2.heap.size w2 w16) := HV_15.out.trans (hb.mono HV_15.out.size)
  have K0_16 : Hid (Blk w16 w2.heap.size 30 #[.int .u8 k1, .int .i16 y1, .int .i16 n1]) := K0_15.out.keep hb
  have MG_16 : Hid (MkdN w16 Ag hsg (L) 1) := MG_15.out.below hb
  clear hb HB_15 HV_15 K0_15 MG_15
  have HN_16 := Lib.hid hN
  clear hN
  go_wp2_with fail
  obtain ⟨w17, hww17⟩ : ∃ v, w16.alloc (.cells #[.int .u8 k1, .int .i16 y1, .int .i16 n1] 30) = v := ⟨_, rfl⟩
  have hb : Below w16.heap.size w16 w17 := by rw [← hww17]; exact (Below.refl _ _).alloc (Nat.le_refl _) _
  have hK : Blk w17 w16.heap.size 30 #[.int .u8 k1, .int .i16 y1, .int .i16 n1] := by rw [← hww17]; exact Blk.new w16 _ _
  rw [hww17]
  clear hww17
  have HB_17 : Hid (Below w.heap.size w w17) := HB_16.out.trans (hb.mono HB_16.out.size)
  have HV_17 : Hid (Below w2.heap.size w2 w17) := HV_16.out.trans (hb.mono HV_16.out.size)
  have K0_17 : Hid (Blk w17 w2.heap.size 30 #[.int .u8 k1, .int .i16 y1, .int .i16 n1]) := K0_16.out.keep hb
  have MG_17 : Hid (MkdN w17 Ag hsg (L) 1) := MG_16.out.below hb
  have HN_17 : Hid (OwnN w17 w15.heap.size 44 30 3 wcells A2 c2 hs2 (L)) := HN_16.out.keep hb
  clear hb HB_16 HV_16 K0_16 MG_16 HN_16
  have K2_17 := Lib.hid hK
  clear hK
  go_wp2_with fail
  refine (eqRack_same L _ _ _ _ _ hLl HLx.out (HN_17.out.rd wcells_length) (RV.out.keep HV_17.out)).mono ?_
  rintro e w18 ⟨rfl, hb⟩
  have HB_18 : Hid (Below w.heap.size w w18) := HB_17.out.trans (hb.mono HB_17.out.size)
  have HV_18 : Hid (Below w2.heap.size w2 w18) := HV_17.out.trans (hb.mono HV_17.out.size)
  have K0_18 : Hid (Blk w18 w2.heap.size 30 #[.int .u8 k1, .int .i16 y1, .int .i16 n1]) := K0_17.out.keep hb
  have MG_18 : Hid (MkdN w18 Ag hsg (L) 1) := MG_17.out.below hb
  have HN_18 : Hid (OwnN w18 w15.heap.size 44 30 3 wcells A2 c2 hs2 (L)) := HN_17.out.keep hb
  have K2_18 : Hid (Blk w18 w16.heap.size 30 #[.int .u8 k1, .int .i16 y1, .int .i16 n1]) := K2_17.out.keep hb
  clear hb HB_17 HV_17 K0_17 MG_17 HN_17 K2_17
  have d00 : w18.cell? ⟨w16.heap.size, 0, none⟩ = some (.int .u8 k1) := K2_18.out.cell 0
  have d01 : w18.cell? ⟨w16.heap.size, 1, none⟩ = some (.int .i16 y1) := K2_18.out.cell 1
  have d02 : w18.cell? ⟨w16.heap.size, 2, none⟩ = some (.int .i16 n1) := K2_18.out.cell 2
  have d10 : w18.cell? ⟨w2.heap.size, 0, none⟩ = some (.int .u8 k1) := K0_18.out.cell 0
  have d11 : w18.cell? ⟨w2.heap.size, 1, none⟩ = some (.int .i16 y1) := K0_18.out.cell 1
  have d12 : w18.cell? ⟨w2.heap.size, 2, none⟩ = some (.int .i16 n1) := K0_18.out.cell 2
  go_wp2_with fail
  refine (eqStored_same ((k1, y1), n1) _).mono ?_
  rintro e w19 ⟨rfl, hb⟩
  clear d00 d01 d02 d10 d11 d12
  have HB_19 : Hid (Below w.heap.size w w19) := HB_18.out.trans (hb.mono HB_18.out.size)
  have HV_19 : Hid (Below w2.heap.size w2 w19) := HV_18.out.trans (hb.mono HV_18.out.size)
  have K0_19 : Hid (Blk w19 w2.heap.size 30 #[.int .u8 k1, .int .i16 y1, .int .i16 n1]) := K0_18.out.keep hb
  have MG_19 : Hid (MkdN w19 Ag hsg (L) 1) := MG_18.out.below hb
  have HN_19 : Hid (OwnN w19 w15.heap.size 44 30 3 wcells A2 c2 hs2 (L)) := HN_18.out.keep hb
  have K2_19 : Hid (Blk w19 w16.heap.size 30 #[.int .u8 k1, .int .i16 y1, .int .i16 n1]) := K2_18.out.keep hb
  clear hb HB_18 HV_18 K0_18 MG_18 HN_18 K2_18
  go_wp2_with fail
  refine (hdRk_any L hsg Ag _ (1) _ (by omega) (by omega) hLl MG_19.out).mono ?_
  rintro e w' ⟨rfl, rfl⟩
  go_wp2
  go_ret
  exact ⟨rfl, HB_19.out⟩
end Go.Proofs.YtmfdgpinohbckaaDoor
