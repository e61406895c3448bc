/-
  FnExactSortLane: for all arguments the law returns true, and they read as before. No condition but that the sentinel errors hold what the program's text lays (tied).
-/
import Derived.Test.YtlfamfdgphhbcaaDoorCards
import Derived.Test.YtlfamfdgphhbcaaDoorTie
import Derived.Test.YtlfamfdgphhbcaaDoorG
import Derived.Test.YtlfamfdgphhbcaaDoorLs1
import Derived.Test.YtlfamfdgphhbcaaDoorLs2
import Derived.Test.YtlfamfdgphhbcaaDoorMkRk
import Derived.SevenTiedAt
namespace Go.Proofs.YtlfamfdgphhbcaaDoor
open Go.ChangeShapes Go.WideShapes Go.ChangeAt Go.RowKit Go.Deep

theorem slL_sum (xss : List (List Wnt)) (l : Int) (m : Nat) (hm : ∀ xs ∈ xss, xs.length ≤ m) : (slL xss l).length ≤ xss.length ∧ ∀ ys ∈ slL xss l, ys.length ≤ m := by
  unfold slL
  split
  · rename_i h
    refine ⟨by simp, fun ys hy => ?_⟩
    rcases List.mem_or_eq_of_mem_set hy with h1 | h1
    · exact hm _ h1
    · subst h1
      unfold slC at h
      split at h
      · split at h
        · rename_i h3
          obtain ⟨k, rfl, hk⟩ := inB_nat h3
          have := hm _ (List.mem_of_getElem? (lnAt_nat hk))
          rw [nfL_len]; exact this
        · cases h
      · cases h
  · exact ⟨by simp, by simp⟩
theorem sum_bound7 {T : Type} : ∀ (xss : List (List T)) (m : Nat), (∀ xs ∈ xss, xs.length ≤ m) → sumL xss ≤ xss.length * m
  | [], _, _ => by simp [sumL]
  | xs :: xss, m, h => by
    have h1 := sum_bound7 xss m (fun ys hy => h ys (List.mem_cons_of_mem _ hy))
    have h2 := h xs (List.mem_cons_self ..)
    unfold sumL at h1 ⊢
    simp only [List.map_cons, List.sum_cons, List.length_cons, Nat.succ_mul]
    omega

set_option maxRecDepth 100000 in
set_option maxHeartbeats 4000000 in
theorem slnLaw_any (xss : List (List Wnt)) (A : Option Addr) (c : Nat) (l : Int) (ad : Nat → Addr) (w : World) (hl0 : xss.length ≤ 9223372036854775807) (hr0 : RdN w w.heap.size wcells A xss) (hx0 : ∀ xs ∈ xss, xs.length ≤ 9223372036854775807) (hw0 : ∀ xs ∈ xss, ∀ x ∈ xs, wfW x) (hE : EW 7 w ad) :
    Calls Tryd.prog 5 #[.slice A xss.length c, .int .i64 l] w (Good w) := by
  have HR0 := Lib.hid hr0
  have HW0 := Lib.hid hw0
  have HE := Lib.hid hE
  clear hE hr0 hw0
  have HB_0 : Hid (Below w.heap.size w w) := Below.refl _ w
  go_enter Tryd.func5, Tryd.ntmps5
  go_wp2_with fail
  refine (szRack_any xss A c (1048576) hl0 hx0 ⟨by omega, by omega⟩ _ HR0.out).mono ?_
  rintro e w' ⟨rfl, rfl⟩
  by_cases hn0 : (1048576 : Int) < (xss.length + sumL xss)
  · rw [if_pos hn0]
    go_wp2
    go_ret
    exact ⟨rfl, HB_0.out⟩
  rw [if_neg hn0]
  have hz0 : (0 : Int) ≤ 1048576 - (xss.length + sumL xss) := by omega
  have hm0 : xss.length ≤ 1048576 := by omega
  have hsm0 : sumL xss ≤ 1048576 := by omega
  have hxm0 : ∀ xs ∈ xss, xs.length ≤ 1048576 := fun xs hxs => by obtain ⟨j, hj, rfl⟩ := List.mem_iff_getElem.1 hxs; have := le_sumL (List.getElem?_eq_getElem hj); omega
  obtain ⟨L, hL⟩ : ∃ L, slL xss l = L := ⟨_, rfl⟩
  obtain ⟨cd, hcd⟩ : ∃ cd, slC xss l = cd := ⟨_, rfl⟩
  have hLs := slL_sum xss l 1048576 hxm0
  rw [hL] at hLs
  have hLl : L.length ≤ 1048576 := by have := hLs.1; omega
  have HLx := Lib.hid hLs.2
  have hLn : sumL L ≤ 1099511627776 := by have := sum_bound7 L 1048576 HLx.out; have := Nat.mul_le_mul_right 1048576 hLl; omega
  clear hLs hx0 hl0
  have HS : Hid (∀ A c w, RdN w w.heap.size wcells A xss → Calls Tryd.prog 15 #[.slice A xss.length c, .int .i64 l] w fun e w' => ∃ A' c', e = .returned (.tuple #[.slice A' L.length c', .int .i64 cd]) ∧ RdN w' w'.heap.size wcells A' L ∧ Below w.heap.size w w') := by
    have := fun A c w hr => specSortLane_any xss HW0.out A c l w hm0 hxm0 hr
    rw [hL, hcd] at this; exact this
  have HI : Hid (∀ A c w, RdN w w.heap.size wcells A xss → EW 7 w ad → Calls Tryd.prog 17 #[.slice A xss.length c, .int .i64 l] w fun e w' => ∃ A' c' hs, e = .returned (.tuple #[.slice A' L.length c', .int .i64 cd]) ∧ OwnN w' w.heap.size 88 90 3 wcells A' c' hs L ∧ Below w.heap.size w w') := by
    have := fun A c w hr hE => implSortLane_any xss HW0.out A c l ad w hm0 hxm0 hr hE
    rw [hL, hcd] at this; exact this
  clear hL hcd
  go_wp2_with fail
  refine (toRack_any xss A c _ hm0 hxm0 (HR0.out.keep HB_0.out)).mono ?_
  rintro e w1 ⟨rfl, ⟨gsS, hR⟩, hb⟩
  have HB_1 : Hid (Below w.heap.size w w1) := HB_0.out.trans (hb.mono HB_0.out.size)
  clear hb HB_0
  have S_1 : Hid (RsN w1 w.heap.size 88 90 wcells xss gsS) := hR
  clear hR
  go_wp2_with fail
  refine (HS.out _ _ _ S_1.out.rd).mono ?_
  rintro e w2 ⟨A0, c0, rfl, hV, hb⟩
  clear S_1
  have HB_2 : Hid (Below w.heap.size w w2) := HB_1.out.trans (hb.mono HB_1.out.size)
  clear hb HB_1
  have RV : Hid (RdN w2 w2.heap.size wcells A0 L) := hV
  clear hV
  have HV_2 : Hid (Below w2.heap.size w2 w2) := Below.refl _ _
  go_wp2_with fail
  refine (toRack_any xss A c _ hm0 hxm0 (HR0.out.keep HB_2.out)).mono ?_
  rintro e w3 ⟨rfl, ⟨gsX, hR⟩, hb⟩
  have LE0 : Hid (w.heap.size ≤ w2.heap.size) := HB_2.out.size
  have LE1 : Hid (w2.heap.size ≤ w2.heap.size) := HV_2.out.size
  have HB_3 : Hid (Below w.heap.size w w3) := HB_2.out.trans (hb.mono HB_2.out.size)
  have HV_3 : Hid (Below w2.heap.size w2 w3) := HV_2.out.trans (hb.mono HV_2.out.size)
  clear hb HB_2 HV_2
  have X_3 : Hid (RsN w3 w2.heap.size 88 90 wcells xss gsX) := hR
  clear hR
  go_wp2_with fail
  refine (HI.out _ _ _ X_3.out.rd (HE.out.below HB_3.out (Nat.le_refl _))).mono ?_
  rintro e w4 ⟨Ag, cg, hsg, rfl, hN, hb⟩
  have HXS := Lib.hid (rk_src X_3.out).2.2.2.2.2
  have LE2 : Hid (w.heap.size ≤ w3.heap.size) := HB_3.out.size
  have LE3 : Hid (w2.heap.size ≤ w3.heap.size) := HV_3.out.size
  have LE4 : Hid (w3.heap.size ≤ w4.heap.size) := hb.size
  have HB_4 : Hid (Below w.heap.size w w4) := HB_3.out.trans (hb.mono HB_3.out.size)
  have HV_4 : Hid (Below w2.heap.size w2 w4) := HV_3.out.trans (hb.mono HV_3.out.size)
  have X_4 : Hid (RsN w4 w2.heap.size 88 90 wcells xss gsX) := X_3.out.keep hb
  clear hb HB_3 HV_3 X_3
  have HGS := Lib.hid (own_src hN).2.2.2.2.2
  have GN_4 := Lib.hid hN
  clear hN
  go_wp2_with fail
  refine (eqRack_same L _ _ _ _ _ hLl HLx.out (GN_4.out.rd wcells_length) (RV.out.keep HV_4.out)).mono ?_
  rintro e w5 ⟨rfl, hb⟩
  have HB_5 : Hid (Below w.heap.size w w5) := HB_4.out.trans (hb.mono HB_4.out.size)
  have HV_5 : Hid (Below w2.heap.size w2 w5) := HV_4.out.trans (hb.mono HV_4.out.size)
  have X_5 : Hid (RsN w5 w2.heap.size 88 90 wcells xss gsX) := X_4.out.keep hb
  have GN_5 : Hid (OwnN w5 w3.heap.size 88 90 3 wcells Ag cg hsg (L)) := GN_4.out.keep hb
  clear hb HB_4 HV_4 X_4 GN_4
  go_wp2_with fail
  refine (toRack_any xss A c _ hm0 hxm0 (HR0.out.keep HB_5.out)).mono ?_
  rintro e w6 ⟨rfl, ⟨gsZ, hR⟩, hb⟩
  have HB_6 : Hid (Below w.heap.size w w6) := HB_5.out.trans (hb.mono HB_5.out.size)
  have HV_6 : Hid (Below w2.heap.size w2 w6) := HV_5.out.trans (hb.mono HV_5.out.size)
  have X_6 : Hid (RsN w6 w2.heap.size 88 90 wcells xss gsX) := X_5.out.keep hb
  have GN_6 : Hid (OwnN w6 w3.heap.size 88 90 3 wcells Ag cg hsg (L)) := GN_5.out.keep hb
  clear hb HB_5 HV_5 X_5 GN_5
  have Z_6 : Hid (RsN w6 w5.heap.size 88 90 wcells xss gsZ) := hR
  clear hR
  go_wp2_with fail
  refine (eqRack_same xss _ _ _ _ _ hm0 hxm0 X_6.out.rd Z_6.out.rd).mono ?_
  rintro e w7 ⟨rfl, hb⟩
  clear Z_6
  have HB_7 : Hid (Below w.heap.size w w7) := HB_6.out.trans (hb.mono HB_6.out.size)
  have HV_7 : Hid (Below w2.heap.size w2 w7) := HV_6.out.trans (hb.mono HV_6.out.size)
  have X_7 : Hid (RsN w7 w2.heap.size 88 90 wcells xss gsX) := X_6.out.keep hb
  have GN_7 : Hid (OwnN w7 w3.heap.size 88 90 3 wcells Ag cg hsg (L)) := GN_6.out.keep hb
  clear hb HB_6 HV_6 X_6 GN_6
  obtain ⟨q1, q2, q3, q4, q5, q6⟩ := rk_src X_7.out
  clear X_7
  go_wp2_with fail
  refine (mkRk_any xss _ _ _ (1) _ (by omega) (by omega) hm0 q1 q2 q3 q4 q5).mono ?_
  rintro e w8 ⟨rfl, -, hO⟩
  have hS := HXS.out
  clear q1 q2 q3 q4 q5 q6 HXS
  have HB_8 : Hid (Below w.heap.size w w8) := hO.below HB_7.out HB_7.out.size (fun k e => by have lk := hS k e; have l0 := LE0.out; have l1 := LE1.out; have l2 := LE2.out; have l3 := LE3.out; have l4 := LE4.out; omega)
  have HV_8 : Hid (Below w2.heap.size w2 w8) := hO.below HV_7.out HV_7.out.size (fun k e => by have lk := hS k e; have l0 := LE0.out; have l1 := LE1.out; have l2 := LE2.out; have l3 := LE3.out; have l4 := LE4.out; omega)
  have GN_8 : Hid (OwnN w8 w3.heap.size 88 90 3 wcells Ag cg hsg (L)) := GN_7.out.only hO (fun k e => by have lk := hS k e; have l0 := LE0.out; have l1 := LE1.out; have l2 := LE2.out; have l3 := LE3.out; have l4 := LE4.out; omega)
  clear hO hS HB_7 HV_7 GN_7
  have hnn0 : (0 : Int) ≤ (sumL xss : Int) := Int.natCast_nonneg _
  have hkn : ¬ (1 + 3 * (sumL xss : Int) < 0) := by omega
  go_wp2_with fail
  refine (eqRack_same L _ _ _ _ _ hLl HLx.out (GN_8.out.rd wcells_length) (RV.out.keep HV_8.out)).mono ?_
  rintro e w9 ⟨rfl, hb⟩
  have HB_9 : Hid (Below w.heap.size w w9) := HB_8.out.trans (hb.mono HB_8.out.size)
  have HV_9 : Hid (Below w2.heap.size w2 w9) := HV_8.out.trans (hb.mono HV_8.out.size)
  have GN_9 : Hid (OwnN w9 w3.heap.size 88 90 3 wcells Ag cg hsg (L)) := GN_8.out.keep hb
  clear hb HB_8 HV_8 GN_8
  obtain ⟨q1, q2, q3, q4, q5, q6⟩ := own_src GN_9.out
  clear GN_9
  go_wp2_with fail
  refine (mkRk_any L hsg Ag _ (1) _ (by omega) (by omega) hLl q1 q2 q3 q4 q5).mono ?_
  rintro e w10 ⟨rfl, hM, hO⟩
  have hS := HGS.out
  clear q1 q2 q3 q4 q5 q6 HGS
  have HB_10 : Hid (Below w.heap.size w w10) := hO.below HB_9.out HB_9.out.size (fun k e => by have lk := hS k e; have l0 := LE0.out; have l1 := LE1.out; have l2 := LE2.out; have l3 := LE3.out; have l4 := LE4.out; omega)
  have HV_10 : Hid (Below w2.heap.size w2 w10) := hO.below HV_9.out HV_9.out.size (fun k e => by have lk := hS k e; have l0 := LE0.out; have l1 := LE1.out; have l2 := LE2.out; have l3 := LE3.out; have l4 := LE4.out; omega)
  clear hO hS HB_9 HV_9
  have MG_10 : Hid (MkdN w10 Ag hsg (L) 1) := hM
  clear hM
  have hnn1 : (0 : Int) ≤ (sumL L : Int) := Int.natCast_nonneg _
  have hmn : ¬ (1 + 3 * (sumL L : Int) < 0) := by omega
  go_wp2_with fail
  refine (hdRk_any L hsg Ag _ (1) _ (by omega) (by omega) hLl MG_10.out).mono ?_
  rintro e w' ⟨rfl, rfl⟩
  go_wp2_with fail
  refine (toRack_any xss A c _ hm0 hxm0 (HR0.out.keep HB_10.out)).mono ?_
  rintro e w11 ⟨rfl, ⟨gsY, hR⟩, hb⟩
  have HB_11 : Hid (Below w.heap.size w w11) := HB_10.out.trans (hb.mono HB_10.out.size)
  have HV_11 : Hid (Below w2.heap.size w2 w11) := HV_10.out.trans (hb.mono HV_10.out.size)
  have MG_11 : Hid (MkdN w11 Ag hsg (L) 1) := MG_10.out.below hb
  clear hb HB_10 HV_10 MG_10
  have Y_11 : Hid (RsN w11 w10.heap.size 88 90 wcells xss gsY) := hR
  clear hR
  go_wp2_with fail
  refine (HI.out _ _ _ Y_11.out.rd (HE.out.below HB_11.out (Nat.le_refl _))).mono ?_
  rintro e w12 ⟨A2, c2, hs2, rfl, hN, hb⟩
  clear Y_11
  have HB_12 : Hid (Below w.heap.size w w12) := HB_11.out.trans (hb.mono HB_11.out.size)
  have HV_12 : Hid (Below w2.heap.size w2 w12) := HV_11.out.trans (hb.mono HV_11.out.size)
  have MG_12 : Hid (MkdN w12 Ag hsg (L) 1) := MG_11.out.below hb
  clear hb HB_11 HV_11 MG_11
  have HN_12 := Lib.hid hN
  clear hN
  go_wp2_with fail
  refine (eqRack_same L _ _ _ _ _ hLl HLx.out (HN_12.out.rd wcells_length) (RV.out.keep HV_12.out)).mono ?_
  rintro e w13 ⟨rfl, hb⟩
  have HB_13 : Hid (Below w.heap.size w w13) := HB_12.out.trans (hb.mono HB_12.out.size)
  have HV_13 : Hid (Below w2.heap.size w2 w13) := HV_12.out.trans (hb.mono HV_12.out.size)
  have MG_13 : Hid (MkdN w13 Ag hsg (L) 1) := MG_12.out.below hb
  have HN_13 : Hid (OwnN w13 w11.heap.size 88 90 3 wcells A2 c2 hs2 (L)) := HN_12.out.keep hb
  clear hb HB_12 HV_12 MG_12 HN_12
  go_wp2_with fail
  refine (hdRk_any L hsg Ag _ (1) _ (by omega) (by omega) hLl MG_13.out).mono ?_
  rintro e w' ⟨rfl, rfl⟩
  go_wp2
  go_ret
  exact ⟨rfl, HB_13.out⟩
end Go.Proofs.YtlfamfdgphhbcaaDoor
