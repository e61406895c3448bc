/-
  FnExactStoreAt: for all arguments the law returns true, and they read as before. No condition but that the sentinel errors hold what the program's text lays (tied).
-/
import Derived.Test.YtceinefoljcgkaaDoorCards
import Derived.Test.YtceinefoljcgkaaDoorTie
import Derived.Test.YtceinefoljcgkaaDoorG
import Derived.Test.YtceinefoljcgkaaDoorSt2
import Derived.Test.YtceinefoljcgkaaDoorMkRk
import Derived.SevenTiedAt
namespace Go.Proofs.YtceinefoljcgkaaDoor
open Go.ChangeShapes Go.WideShapes Go.ChangeAt Go.RowKit Go.Deep

theorem stL_sum (xss : List (List Wnt)) (l : Int) (x : Wnt) : (stL xss l x).length ≤ xss.length ∧ ∀ ys ∈ stL xss l x, ys.length ≤ 7 ∨ ys ∈ xss := by
  unfold stL
  split
  · rename_i h
    refine ⟨by simp, fun ys hy => ?_⟩
    rcases List.mem_or_eq_of_mem_set hy with h1 | h1
    · exact .inr h1
    · left
      subst h1
      unfold stC at h
      split at h
      · rename_i h2
        simp only [Bool.and_eq_true] at h2
        split at h
        · rename_i h3
          obtain ⟨k, rfl, hk⟩ := inB_nat h3
          have := (rkOk_lane h2.1 (List.mem_of_getElem? (lnAt_nat hk))).1
          simp; omega
        · cases h
      · cases h
  · exact ⟨by simp, by simp⟩
theorem sum_bound {T : Type} : ∀ (xss : List (List T)) (m : Nat), (∀ xs ∈ xss, xs.length ≤ m) → sumL xss ≤ xss.length * m
  | [], _, _ => by simp [sumL]
  | xs :: xss, m, h => by
    have h1 := sum_bound xss m (fun ys hy => h ys (List.mem_cons_of_mem _ hy))
    have h2 := h xs (List.mem_cons_self ..)
    unfold sumL at h1 ⊢
    simp only [List.map_cons, List.sum_cons, List.length_cons, Nat.succ_mul]
    omega

set_option maxRecDepth 100000 in
set_option maxHeartbeats 4000000 in
theorem stLaw_any (xss : List (List Wnt)) (A : Option Addr) (c : Nat) (l : Int) (x : Wnt) (hwx : wfW x) (ad : Nat → Addr) (w : World) (hl0 : xss.length ≤ 9223372036854775807) (hr0 : RdN w w.heap.size wcells A xss) (hx0 : ∀ xs ∈ xss, xs.length ≤ 9223372036854775807) (hw0 : ∀ xs ∈ xss, ∀ x ∈ xs, wfW x) (hE : EW 7 w ad) :
    Calls Tryd.prog 7 #[.slice A xss.length c, .int .i64 l, .agg (wcells x).toArray] w (Good w) := by
  obtain ⟨⟨k1, y1⟩, n1⟩ := x
  show Calls Tryd.prog 7 #[.slice A xss.length c, .int .i64 l, .agg #[.int .u8 k1, .int .i16 y1, .int .i16 n1]] w (Good w)
  have HR0 := Lib.hid hr0
  have HW0 := Lib.hid hw0
  have HWX := Lib.hid hwx
  have HE := Lib.hid hE
  clear hE hr0 hw0 hwx
  have h1 : Blk (w.alloc (.cells #[.int .u8 k1, .int .i16 y1, .int .i16 n1] 42)) w.heap.size 42 #[.int .u8 k1, .int .i16 y1, .int .i16 n1] := Blk.new w _ _
  have h2 : Below w.heap.size w (w.alloc (.cells #[.int .u8 k1, .int .i16 y1, .int .i16 n1] 42)) := (Below.refl _ w).alloc (Nat.le_refl _) _
  obtain ⟨W0, hW0⟩ : ∃ W0, w.alloc (.cells #[.int .u8 k1, .int .i16 y1, .int .i16 n1] 42) = W0 := ⟨_, rfl⟩
  rw [hW0] at h1 h2
  have KX_0 := Lib.hid h1
  have HB_0 := Lib.hid h2
  clear h1 h2
  go_enter Tryd.func7, Tryd.ntmps7
  go_wp2_with fail
  clear hW0
  refine (szRack_any xss A c (1048576) hl0 hx0 ⟨by omega, by omega⟩ _ (HR0.out.keep HB_0.out)).mono ?_
  rintro e w' ⟨rfl, rfl⟩
  by_cases hn0 : (1048576 : Int) < (xss.length + sumL xss)
  · rw [if_pos hn0]
    go_wp2
    go_ret
    exact ⟨rfl, HB_0.out⟩
  rw [if_neg hn0]
  have hz0 : (0 : Int) ≤ 1048576 - (xss.length + sumL xss) := by omega
  have hm0 : xss.length ≤ 1048576 := by omega
  have hsm0 : sumL xss ≤ 1048576 := by omega
  have hxm0 : ∀ xs ∈ xss, xs.length ≤ 1048576 := fun xs hxs => by obtain ⟨j, hj, rfl⟩ := List.mem_iff_getElem.1 hxs; have := le_sumL (List.getElem?_eq_getElem hj); omega
  obtain ⟨L, hL⟩ : ∃ L, stL xss l ((k1, y1), n1) = L := ⟨_, rfl⟩
  obtain ⟨cd, hcd⟩ : ∃ cd, stC xss l ((k1, y1), n1) = cd := ⟨_, rfl⟩
  have hLs := stL_sum xss l ((k1, y1), n1)
  rw [hL] at hLs
  have hLl : L.length ≤ 1048576 := by have := hLs.1; omega
  have hLx : ∀ ys ∈ L, ys.length ≤ 1048576 := fun ys hy => by
    rcases hLs.2 ys hy with h | h
    · omega
    · exact hxm0 ys h
  have hLn : sumL L ≤ 1099511627776 := by have := sum_bound L 1048576 hLx; have := Nat.mul_le_mul_right 1048576 hLl; omega
  have HLx := Lib.hid hLx
  clear hLs hLx hx0 hl0
  have HS : Hid (∀ A c w, RdN w w.heap.size wcells A xss → Calls Tryd.prog 22 #[.slice A xss.length c, .int .i64 l, .agg #[.int .u8 k1, .int .i16 y1, .int .i16 n1]] w fun e w' => ∃ A' c', e = .returned (.tuple #[.slice A' L.length c', .int .i64 cd]) ∧ RdN w' w'.heap.size wcells A' L ∧ Below w.heap.size w w') := by
    have := fun A c w hr => specStoreAt_any xss HW0.out ((k1, y1), n1) HWX.out A c l w hm0 hxm0 hr
    rw [hL, hcd] at this; exact this
  have HI : Hid (∀ A c w, RdN w w.heap.size wcells A xss → EW 7 w ad → Calls Tryd.prog 23 #[.slice A xss.length c, .int .i64 l, .agg #[.int .u8 k1, .int .i16 y1, .int .i16 n1]] w fun e w' => ∃ A' c' hs, e = .returned (.tuple #[.slice A' L.length c', .int .i64 cd]) ∧ OwnN w' w.heap.size 59 45 3 wcells A' c' hs L ∧ Below w.heap.size w w') := by
    have := fun A c w hr hE => implStoreAt_any xss HW0.out ((k1, y1), n1) HWX.out A c l ad w hm0 hxm0 hr hE
    rw [hL, hcd] at this; exact this
  clear hL hcd
  go_wp2_with fail
  refine wp_region_held_drew (S := fun w' => Below W0.heap.size W0 w') (by kernel_rfl) (Below.refl _ _).drew (fun hHeld => ?_)
  refine wpAnyH_take (i := 0) (v := .slice A xss.length c) rfl (by kernel_rfl) (by kernel_rfl) (by kernel_rfl) (fun _ _ _ h => h) (Or.inl ⟨by rfl, fun w' h => by go_simp⟩) (by assumption) ?_
  try simp only [Act.put, List.getElem_toArray, List.getElem_cons_zero, List.getElem_cons_succ, List.setIfInBounds_toArray, List.set_cons_zero, List.set_cons_succ]
  refine wpAnyH_take (i := 2) (v := .int .i64 l) rfl (by kernel_rfl) (by kernel_rfl) (by kernel_rfl) (fun _ _ _ h => h) (Or.inl ⟨by rfl, fun w' h => by go_simp⟩) (by assumption) ?_
  try simp only [Act.put, List.getElem_toArray, List.getElem_cons_zero, List.getElem_cons_succ, List.setIfInBounds_toArray, List.set_cons_zero, List.set_cons_succ]
  refine wpAnyH_take (i := 3) (v := .agg #[.int .u8 k1, .int .i16 y1, .int .i16 n1]) rfl (by kernel_rfl) (by kernel_rfl) (by kernel_rfl) (fun _ _ _ h => h) (Or.inl ⟨by rfl, fun w' h => by have HM := (KX_0.out.below h KX_0.out.lt); have g0 : w'.cell? ⟨w.heap.size, 0, none⟩ = some (.int .u8 k1) := HM.cell 0; have g1 : w'.cell? ⟨w.heap.size, 1, none⟩ = some (.int .i16 y1) := HM.cell 1; have g2 : w'.cell? ⟨w.heap.size, 2, none⟩ = some (.int .i16 n1) := HM.cell 2; go_simp⟩) (by assumption) ?_
  try simp only [Act.put, List.getElem_toArray, List.getElem_cons_zero, List.getElem_cons_succ, List.setIfInBounds_toArray, List.set_cons_zero, List.set_cons_succ]
  obtain ⟨D0, hD0⟩ : ∃ D0, W0.drew = D0 := ⟨_, rfl⟩
  rw [hD0] at hHeld ⊢
  clear hD0
  refine wpAnyH_ready (rs := [1]) (by kernel_rfl) (by simp) ?_
  refine AllReadyH.cons rfl (fun K hK => ?_) AllReadyH.nil
  refine if_wanted rfl ?_
  go_simp
  refine (toRack_any xss A c _ hm0 hxm0 (HR0.out.keep (HB_0.out.trans (hHeld.mono HB_0.out.size)))).mono ?_
  rintro e z1 ⟨rfl, ⟨gs0, hR⟩, hb⟩
  have hH2 : Below W0.heap.size W0 z1 := hHeld.trans (hb.mono hHeld.size)
  clear hb hHeld
  dsimp only
  refine hK.out _ _ hH2 (fun hHeld => ?_)
  clear hK K hH2
  try simp only [Act.put, List.getElem_toArray, List.getElem_cons_zero, List.getElem_cons_succ, List.setIfInBounds_toArray, List.set_cons_zero, List.set_cons_succ]
  refine wpAnyH_ready (rs := [4]) (by kernel_rfl) (by simp) ?_
  refine AllReadyH.cons rfl (fun K hK => ?_) AllReadyH.nil
  refine if_wanted rfl ?_
  go_simp
  refine (toStored_any ((k1, y1), n1) _).mono ?_
  rintro e z2 ⟨rfl, hb⟩
  have hH2 : Below W0.heap.size W0 z2 := hHeld.trans (hb.mono hHeld.size)
  have hR2 := hR.keep hb
  clear hR
  clear hb hHeld
  dsimp only
  refine hK.out _ _ hH2 (fun hHeld => ?_)
  clear hK K hH2
  try simp only [Act.put, List.getElem_toArray, List.getElem_cons_zero, List.getElem_cons_succ, List.setIfInBounds_toArray, List.set_cons_zero, List.set_cons_succ]
  refine wpAnyH_ready (rs := [5]) (by kernel_rfl) (by simp) ?_
  refine AllReadyH.cons rfl (fun K hK => ?_) AllReadyH.nil
  refine if_wanted rfl ?_
  go_simp
  refine (HS.out _ _ _ hR2.rd).mono ?_
  rintro e z3 ⟨A0, c0, rfl, hV, hb⟩
  have hH2 : Below W0.heap.size W0 z3 := hHeld.trans (hb.mono hHeld.size)
  have hbase := hHeld.size
  clear hR2
  clear hb hHeld
  dsimp only
  refine hK.out _ _ hH2 (fun hHeld => ?_)
  clear hK K hH2
  try simp only [Act.put, List.getElem_toArray, List.getElem_cons_zero, List.getElem_cons_succ, List.setIfInBounds_toArray, List.set_cons_zero, List.set_cons_succ]
  refine wpAnyH_take (i := 6) (v := .tuple #[.slice A0 L.length c0, .int .i64 cd]) rfl (by kernel_rfl) (by kernel_rfl) (by kernel_rfl) (fun _ _ _ h => h) (Or.inl ⟨by rfl, fun w' h => by go_simp⟩) (by assumption) ?_
  try simp only [Act.put, List.getElem_toArray, List.getElem_cons_zero, List.getElem_cons_succ, List.setIfInBounds_toArray, List.set_cons_zero, List.set_cons_succ]
  refine wpAnyH_take (i := 7) (v := .slice A0 L.length c0) rfl (by kernel_rfl) (by kernel_rfl) (by kernel_rfl) (fun _ _ _ h => h) (Or.inl ⟨by rfl, fun w' h => by go_simp⟩) (by assumption) ?_
  try simp only [Act.put, List.getElem_toArray, List.getElem_cons_zero, List.getElem_cons_succ, List.setIfInBounds_toArray, List.set_cons_zero, List.set_cons_succ]
  refine wpAnyH_take (i := 8) (v := .int .i64 cd) rfl (by kernel_rfl) (by kernel_rfl) (by kernel_rfl) (fun _ _ _ h => h) (Or.inl ⟨by rfl, fun w' h => by go_simp⟩) (by assumption) ?_
  try simp only [Act.put, List.getElem_toArray, List.getElem_cons_zero, List.getElem_cons_succ, List.setIfInBounds_toArray, List.set_cons_zero, List.set_cons_succ]
  refine wpAnyH_ready (rs := [9]) (by kernel_rfl) (by simp) ?_
  refine AllReadyH.cons rfl (fun K hK => ?_) AllReadyH.nil
  refine if_wanted rfl ?_
  refine wp_assign0 (v := .slice A0 L.length c0) rfl rfl ?_
  refine hK.out _ _ hHeld (fun hHeld => ?_)
  clear hK K
  try simp only [Act.put, List.getElem_toArray, List.getElem_cons_zero, List.getElem_cons_succ, List.setIfInBounds_toArray, List.set_cons_zero, List.set_cons_succ]
  refine wpAnyH_ready (rs := [10]) (by kernel_rfl) (by simp) ?_
  refine AllReadyH.cons rfl (fun K hK => ?_) AllReadyH.nil
  refine if_wanted rfl ?_
  refine wp_assign0 (v := .int .i64 cd) rfl rfl ?_
  refine hK.out _ _ hHeld (fun hHeld => ?_)
  clear hK K
  try simp only [Act.put, List.getElem_toArray, List.getElem_cons_zero, List.getElem_cons_succ, List.setIfInBounds_toArray, List.set_cons_zero, List.set_cons_succ]
  refine wpAnyH_done (by kernel_rfl) ?_ _
  try simp only [Act.put, List.getElem_toArray, List.getElem_cons_zero, List.getElem_cons_succ, List.setIfInBounds_toArray, List.set_cons_zero, List.set_cons_succ]
  have hb := hHeld
  clear hHeld
  clear hbase
  have HB_1 : Hid (Below w.heap.size w z3) := HB_0.out.trans (hb.mono HB_0.out.size)
  have KX_1 : Hid (Blk z3 w.heap.size 42 #[.int .u8 k1, .int .i16 y1, .int .i16 n1]) := KX_0.out.keep hb
  clear hb HB_0 KX_0
  have RV : Hid (RdN z3 z3.heap.size wcells A0 L) := hV
  clear hV
  have HV_1 : Hid (Below z3.heap.size z3 z3) := Below.refl _ _
  go_wp2_with fail
  refine (toRack_any xss A c _ hm0 hxm0 (HR0.out.keep HB_1.out)).mono ?_
  rintro e w1 ⟨rfl, ⟨gsX, hR⟩, hb⟩
  have LE0 : Hid (w.heap.size ≤ z3.heap.size) := HB_1.out.size
  have LE1 : Hid (w.heap.size < z3.heap.size) := KX_1.out.lt
  have LE2 : Hid (z3.heap.size ≤ z3.heap.size) := HV_1.out.size
  have HB_2 : Hid (Below w.heap.size w w1) := HB_1.out.trans (hb.mono HB_1.out.size)
  have KX_2 : Hid (Blk w1 w.heap.size 42 #[.int .u8 k1, .int .i16 y1, .int .i16 n1]) := KX_1.out.keep hb
  have HV_2 : Hid (Below z3.heap.size z3 w1) := HV_1.out.trans (hb.mono HV_1.out.size)
  clear hb HB_1 KX_1 HV_1
  have X_2 : Hid (RsN w1 z3.heap.size 59 45 wcells xss gsX) := hR
  clear hR
  have d0 : w1.cell? ⟨w.heap.size, 0, none⟩ = some (.int .u8 k1) := KX_2.out.cell 0
  have d1 : w1.cell? ⟨w.heap.size, 1, none⟩ = some (.int .i16 y1) := KX_2.out.cell 1
  have d2 : w1.cell? ⟨w.heap.size, 2, none⟩ = some (.int .i16 n1) := KX_2.out.cell 2
  go_wp2_with fail
  refine (toStored_any ((k1, y1), n1) _).mono ?_
  rintro e w2 ⟨rfl, hb⟩
  clear d0 d1 d2
  have HB_3 : Hid (Below w.heap.size w w2) := HB_2.out.trans (hb.mono HB_2.out.size)
  have KX_3 : Hid (Blk w2 w.heap.size 42 #[.int .u8 k1, .int .i16 y1, .int .i16 n1]) := KX_2.out.keep hb
  have HV_3 : Hid (Below z3.heap.size z3 w2) := HV_2.out.trans (hb.mono HV_2.out.size)
  have X_3 : Hid (RsN w2 z3.heap.size 59 45 wcells xss gsX) := X_2.out.keep hb
  clear hb HB_2 KX_2 HV_2 X_2
  have HXS := Lib.hid (rk_src X_3.out).2.2.2.2.2
  go_wp2_with fail
  refine (HI.out _ _ _ X_3.out.rd (HE.out.below HB_3.out (Nat.le_refl _))).mono ?_
  rintro e w3 ⟨Ag, cg, hsg, rfl, hN, hb⟩
  have LE3 : Hid (w.heap.size ≤ w2.heap.size) := HB_3.out.size
  have LE4 : Hid (w.heap.size < w2.heap.size) := KX_3.out.lt
  have LE5 : Hid (z3.heap.size ≤ w2.heap.size) := HV_3.out.size
  have HB_4 : Hid (Below w.heap.size w w3) := HB_3.out.trans (hb.mono HB_3.out.size)
  have KX_4 : Hid (Blk w3 w.heap.size 42 #[.int .u8 k1, .int .i16 y1, .int .i16 n1]) := KX_3.out.keep hb
  have HV_4 : Hid (Below z3.heap.size z3 w3) := HV_3.out.trans (hb.mono HV_3.out.size)
  have X_4 : Hid (RsN w3 z3.heap.size 59 45 wcells xss gsX) := X_3.out.keep hb
  clear hb HB_3 KX_3 HV_3 X_3
  have GN_4 := Lib.hid hN
  clear hN
  go_wp2_with fail
  refine (eqRack_same L _ _ _ _ _ hLl HLx.out (GN_4.out.rd wcells_length) (RV.out.keep HV_4.out)).mono ?_
  rintro e w4 ⟨rfl, hb⟩
  have HB_5 : Hid (Below w.heap.size w w4) := HB_4.out.trans (hb.mono HB_4.out.size)
  have KX_5 : Hid (Blk w4 w.heap.size 42 #[.int .u8 k1, .int .i16 y1, .int .i16 n1]) := KX_4.out.keep hb
  have HV_5 : Hid (Below z3.heap.size z3 w4) := HV_4.out.trans (hb.mono HV_4.out.size)
  have X_5 : Hid (RsN w4 z3.heap.size 59 45 wcells xss gsX) := X_4.out.keep hb
  have GN_5 : Hid (OwnN w4 w2.heap.size 59 45 3 wcells Ag cg hsg (L)) := GN_4.out.keep hb
  clear hb HB_4 KX_4 HV_4 X_4 GN_4
  go_wp2_with fail
  refine (toRack_any xss A c _ hm0 hxm0 (HR0.out.keep HB_5.out)).mono ?_
  rintro e w5 ⟨rfl, ⟨gsZ, hR⟩, hb⟩
  have HB_6 : Hid (Below w.heap.size w w5) := HB_5.out.trans (hb.mono HB_5.out.size)
  have KX_6 : Hid (Blk w5 w.heap.size 42 #[.int .u8 k1, .int .i16 y1, .int .i16 n1]) := KX_5.out.keep hb
  have HV_6 : Hid (Below z3.heap.size z3 w5) := HV_5.out.trans (hb.mono HV_5.out.size)
  have X_6 : Hid (RsN w5 z3.heap.size 59 45 wcells xss gsX) := X_5.out.keep hb
  have GN_6 : Hid (OwnN w5 w2.heap.size 59 45 3 wcells Ag cg hsg (L)) := GN_5.out.keep hb
  clear hb HB_5 KX_5 HV_5 X_5 GN_5
  have Z_6 : Hid (RsN w5 w4.heap.size 59 45 wcells xss gsZ) := hR
  clear hR
  go_wp2_with fail
  refine (eqRack_same xss _ _ _ _ _ hm0 hxm0 X_6.out.rd Z_6.out.rd).mono ?_
  rintro e w6 ⟨rfl, hb⟩
  clear Z_6
  have HB_7 : Hid (Below w.heap.size w w6) := HB_6.out.trans (hb.mono HB_6.out.size)
  have KX_7 : Hid (Blk w6 w.heap.size 42 #[.int .u8 k1, .int .i16 y1, .int .i16 n1]) := KX_6.out.keep hb
  have HV_7 : Hid (Below z3.heap.size z3 w6) := HV_6.out.trans (hb.mono HV_6.out.size)
  have X_7 : Hid (RsN w6 z3.heap.size 59 45 wcells xss gsX) := X_6.out.keep hb
  have GN_7 : Hid (OwnN w6 w2.heap.size 59 45 3 wcells Ag cg hsg (L)) := GN_6.out.keep hb
  clear hb HB_6 KX_6 HV_6 X_6 GN_6
  obtain ⟨q1, q2, q3, q4, q5, q6⟩ := rk_src X_7.out
  have hXl := X_7.out.lt
  clear X_7
  go_wp2_with fail
  refine (mkRk_any xss _ _ _ (1) _ (by omega) (by omega) hm0 q1 q2 q3 q4 q5).mono ?_
  rintro e w7 ⟨rfl, -, hO⟩
  have hS := HXS.out
  clear q1 q2 q3 q4 q5 q6 hXl HXS
  have HB_8 : Hid (Below w.heap.size w w7) := hO.below HB_7.out HB_7.out.size (fun k e => by have lk := hS k e; have l0 := LE0.out; have l1 := LE1.out; have l2 := LE2.out; have l3 := LE3.out; have l4 := LE4.out; have l5 := LE5.out; omega)
  have KX_8 : Hid (Blk w7 w.heap.size 42 #[.int .u8 k1, .int .i16 y1, .int .i16 n1]) := hO.blk KX_7.out (fun e => by have lk := hS _ e; have l0 := LE0.out; have l1 := LE1.out; have l2 := LE2.out; have l3 := LE3.out; have l4 := LE4.out; have l5 := LE5.out; omega)
  have HV_8 : Hid (Below z3.heap.size z3 w7) := hO.below HV_7.out HV_7.out.size (fun k e => by have lk := hS k e; have l0 := LE0.out; have l1 := LE1.out; have l2 := LE2.out; have l3 := LE3.out; have l4 := LE4.out; have l5 := LE5.out; omega)
  have GN_8 : Hid (OwnN w7 w2.heap.size 59 45 3 wcells Ag cg hsg (L)) := GN_7.out.only hO (fun k e => by have lk := hS k e; have l0 := LE0.out; have l1 := LE1.out; have l2 := LE2.out; have l3 := LE3.out; have l4 := LE4.out; have l5 := LE5.out; omega)
  clear hO hS HB_7 KX_7 HV_7 GN_7
  have hnn0 : (0 : Int) ≤ (sumL xss : Int) := Int.natCast_nonneg _
  have hkn : ¬ (1 + 3 * (sumL xss : Int) < 0) := by omega
  go_wp2_with fail
  refine (eqRack_same L _ _ _ _ _ hLl HLx.out (GN_8.out.rd wcells_length) (RV.out.keep HV_8.out)).mono ?_
  rintro e w8 ⟨rfl, hb⟩
  have HB_9 : Hid (Below w.heap.size w w8) := HB_8.out.trans (hb.mono HB_8.out.size)
  have KX_9 : Hid (Blk w8 w.heap.size 42 #[.int .u8 k1, .int .i16 y1, .int .i16 n1]) := KX_8.out.keep hb
  have HV_9 : Hid (Below z3.heap.size z3 w8) := HV_8.out.trans (hb.mono HV_8.out.size)
  have GN_9 : Hid (OwnN w8 w2.heap.size 59 45 3 wcells Ag cg hsg (L)) := GN_8.out.keep hb
  clear hb HB_8 KX_8 HV_8 GN_8
  obtain ⟨q1, q2, q3, q4, q5, q6⟩ := own_src GN_9.out
  clear GN_9
  go_wp2_with fail
  refine (mkRk_any L hsg Ag _ (1) _ (by omega) (by omega) hLl q1 q2 q3 q4 q5).mono ?_
  rintro e w9 ⟨rfl, hM, hO⟩
  have hS := q6
  clear q1 q2 q3 q4 q5 q6
  have HB_10 : Hid (Below w.heap.size w w9) := hO.below HB_9.out HB_9.out.size (fun k e => by have lk := hS k e; have l0 := LE0.out; have l1 := LE1.out; have l2 := LE2.out; have l3 := LE3.out; have l4 := LE4.out; have l5 := LE5.out; omega)
  have KX_10 : Hid (Blk w9 w.heap.size 42 #[.int .u8 k1, .int .i16 y1, .int .i16 n1]) := hO.blk KX_9.out (fun e => by have lk := hS _ e; have l0 := LE0.out; have l1 := LE1.out; have l2 := LE2.out; have l3 := LE3.out; have l4 := LE4.out; have l5 := LE5.out; omega)
  have HV_10 : Hid (Below z3.heap.size z3 w9) := hO.below HV_9.out HV_9.out.size (fun k e => by have lk := hS k e; have l0 := LE0.out; have l1 := LE1.out; have l2 := LE2.out; have l3 := LE3.out; have l4 := LE4.out; have l5 := LE5.out; omega)
  clear hO hS HB_9 KX_9 HV_9
  have MG_10 : Hid (MkdN w9 Ag hsg (L) 1) := hM
  clear hM
  have hnn1 : (0 : Int) ≤ (sumL L : Int) := Int.natCast_nonneg _
  have hmn : ¬ (1 + 3 * (sumL L : Int) < 0) := by omega
  go_wp2_with fail
  refine (hdRk_any L hsg Ag _ (1) _ (by omega) (by omega) hLl MG_10.out).mono ?_
  rintro e w' ⟨rfl, rfl⟩
  go_wp2_with fail
  refine wp_region_held_drew (S := fun w' => Below w9.heap.size w9 w') (by kernel_rfl) (Below.refl _ _).drew (fun hHeld => ?_)
  refine wpAnyH_take (i := 0) (v := .slice A xss.length c) rfl (by kernel_rfl) (by kernel_rfl) (by kernel_rfl) (fun _ _ _ h => h) (Or.inl ⟨by rfl, fun w' h => by go_simp⟩) (by assumption) ?_
  try simp only [Act.put, List.getElem_toArray, List.getElem_cons_zero, List.getElem_cons_succ, List.setIfInBounds_toArray, List.set_cons_zero, List.set_cons_succ]
  refine wpAnyH_take (i := 2) (v := .int .i64 l) rfl (by kernel_rfl) (by kernel_rfl) (by kernel_rfl) (fun _ _ _ h => h) (Or.inl ⟨by rfl, fun w' h => by go_simp⟩) (by assumption) ?_
  try simp only [Act.put, List.getElem_toArray, List.getElem_cons_zero, List.getElem_cons_succ, List.setIfInBounds_toArray, List.set_cons_zero, List.set_cons_succ]
  refine wpAnyH_take (i := 3) (v := .agg #[.int .u8 k1, .int .i16 y1, .int .i16 n1]) rfl (by kernel_rfl) (by kernel_rfl) (by kernel_rfl) (fun _ _ _ h => h) (Or.inl ⟨by rfl, fun w' h => by have HM := (KX_10.out.below h KX_10.out.lt); have g0 : w'.cell? ⟨w.heap.size, 0, none⟩ = some (.int .u8 k1) := HM.cell 0; have g1 : w'.cell? ⟨w.heap.size, 1, none⟩ = some (.int .i16 y1) := HM.cell 1; have g2 : w'.cell? ⟨w.heap.size, 2, none⟩ = some (.int .i16 n1) := HM.cell 2; go_simp⟩) (by assumption) ?_
  try simp only [Act.put, List.getElem_toArray, List.getElem_cons_zero, List.getElem_cons_succ, List.setIfInBounds_toArray, List.set_cons_zero, List.set_cons_succ]
  obtain ⟨D0, hD0⟩ : ∃ D0, w9.drew = D0 := ⟨_, rfl⟩
  rw [hD0] at hHeld ⊢
  clear hD0
  refine wpAnyH_ready (rs := [1]) (by kernel_rfl) (by simp) ?_
  refine AllReadyH.cons rfl (fun K hK => ?_) AllReadyH.nil
  refine if_wanted rfl ?_
  go_simp
  refine (toRack_any xss A c _ hm0 hxm0 (HR0.out.keep (HB_10.out.trans (hHeld.mono HB_10.out.size)))).mono ?_
  rintro e u1 ⟨rfl, ⟨gs1, hR⟩, hb⟩
  have hH2 : Below w9.heap.size w9 u1 := hHeld.trans (hb.mono hHeld.size)
  clear hb hHeld
  dsimp only
  refine hK.out _ _ hH2 (fun hHeld => ?_)
  clear hK K hH2
  try simp only [Act.put, List.getElem_toArray, List.getElem_cons_zero, List.getElem_cons_succ, List.setIfInBounds_toArray, List.set_cons_zero, List.set_cons_succ]
  refine wpAnyH_ready (rs := [4]) (by kernel_rfl) (by simp) ?_
  refine AllReadyH.cons rfl (fun K hK => ?_) AllReadyH.nil
  refine if_wanted rfl ?_
  go_simp
  refine (toStored_any ((k1, y1), n1) _).mono ?_
  rintro e u2 ⟨rfl, hb⟩
  have hH2 : Below w9.heap.size w9 u2 := hHeld.trans (hb.mono hHeld.size)
  have hR2 := hR.keep hb
  clear hR
  clear hb hHeld
  dsimp only
  refine hK.out _ _ hH2 (fun hHeld => ?_)
  clear hK K hH2
  try simp only [Act.put, List.getElem_toArray, List.getElem_cons_zero, List.getElem_cons_succ, List.setIfInBounds_toArray, List.set_cons_zero, List.set_cons_succ]
  refine wpAnyH_ready (rs := [5]) (by kernel_rfl) (by simp) ?_
  refine AllReadyH.cons rfl (fun K hK => ?_) AllReadyH.nil
  refine if_wanted rfl ?_
  go_simp
  refine (HI.out _ _ _ hR2.rd (HE.out.below (HB_10.out.trans (hHeld.mono HB_10.out.size)) (Nat.le_refl _))).mono ?_
  rintro e u3 ⟨A2, c2, hs2, rfl, hV, hb⟩
  have hH2 : Below w9.heap.size w9 u3 := hHeld.trans (hb.mono hHeld.size)
  have hbase := hHeld.size
  clear hR2
  clear hb hHeld
  dsimp only
  refine hK.out _ _ hH2 (fun hHeld => ?_)
  clear hK K hH2
  try simp only [Act.put, List.getElem_toArray, List.getElem_cons_zero, List.getElem_cons_succ, List.setIfInBounds_toArray, List.set_cons_zero, List.set_cons_succ]
  refine wpAnyH_take (i := 6) (v := .tuple #[.slice A2 L.length c2, .int .i64 cd]) rfl (by kernel_rfl) (by kernel_rfl) (by kernel_rfl) (fun _ _ _ h => h) (Or.inl ⟨by rfl, fun w' h => by go_simp⟩) (by assumption) ?_
  try simp only [Act.put, List.getElem_toArray, List.getElem_cons_zero, List.getElem_cons_succ, List.setIfInBounds_toArray, List.set_cons_zero, List.set_cons_succ]
  refine wpAnyH_take (i := 7) (v := .slice A2 L.length c2) rfl (by kernel_rfl) (by kernel_rfl) (by kernel_rfl) (fun _ _ _ h => h) (Or.inl ⟨by rfl, fun w' h => by go_simp⟩) (by assumption) ?_
  try simp only [Act.put, List.getElem_toArray, List.getElem_cons_zero, List.getElem_cons_succ, List.setIfInBounds_toArray, List.set_cons_zero, List.set_cons_succ]
  refine wpAnyH_take (i := 8) (v := .int .i64 cd) rfl (by kernel_rfl) (by kernel_rfl) (by kernel_rfl) (fun _ _ _ h => h) (Or.inl ⟨by rfl, fun w' h => by go_simp⟩) (by assumption) ?_
  try simp only [Act.put, List.getElem_toArray, List.getElem_cons_zero, List.getElem_cons_succ, List.setIfInBounds_toArray, List.set_cons_zero, List.set_cons_succ]
  refine wpAnyH_ready (rs := [9]) (by kernel_rfl) (by simp) ?_
  refine AllReadyH.cons rfl (fun K hK => ?_) AllReadyH.nil
  refine if_wanted rfl ?_
  refine wp_assign0 (v := .slice A2 L.length c2) rfl rfl ?_
  refine hK.out _ _ hHeld (fun hHeld => ?_)
  clear hK K
  try simp only [Act.put, List.getElem_toArray, List.getElem_cons_zero, List.getElem_cons_succ, List.setIfInBounds_toArray, List.set_cons_zero, List.set_cons_succ]
  refine wpAnyH_ready (rs := [10]) (by kernel_rfl) (by simp) ?_
  refine AllReadyH.cons rfl (fun K hK => ?_) AllReadyH.nil
  refine if_wanted rfl ?_
  refine wp_assign0 (v := .int .i64 cd) rfl rfl ?_
  refine hK.out _ _ hHeld (fun hHeld => ?_)
  clear hK K
  try simp only [Act.put, List.getElem_toArray, List.getElem_cons_zero, List.getElem_cons_succ, List.setIfInBounds_toArray, List.set_cons_zero, List.set_cons_succ]
  refine wpAnyH_done (by kernel_rfl) ?_ _
  try simp only [Act.put, List.getElem_toArray, List.getElem_cons_zero, List.getElem_cons_succ, List.setIfInBounds_toArray, List.set_cons_zero, List.set_cons_succ]
  have hb := hHeld
  clear hHeld
  clear hbase
  have HB_11 : Hid (Below w.heap.size w u3) := HB_10.out.trans (hb.mono HB_10.out.size)
  have KX_11 : Hid (Blk u3 w.heap.size 42 #[.int .u8 k1, .int .i16 y1, .int .i16 n1]) := KX_10.out.keep hb
  have HV_11 : Hid (Below z3.heap.size z3 u3) := HV_10.out.trans (hb.mono HV_10.out.size)
  have MG_11 : Hid (MkdN u3 Ag hsg (L) 1) := MG_10.out.below hb
  clear hb HB_10 KX_10 HV_10 MG_10
  have HN_11 := Lib.hid hV
  clear hV
  go_wp2_with fail
  refine (eqRack_same L _ _ _ _ _ hLl HLx.out (HN_11.out.rd wcells_length) (RV.out.keep HV_11.out)).mono ?_
  rintro e w10 ⟨rfl, hb⟩
  have HB_12 : Hid (Below w.heap.size w w10) := HB_11.out.trans (hb.mono HB_11.out.size)
  have KX_12 : Hid (Blk w10 w.heap.size 42 #[.int .u8 k1, .int .i16 y1, .int .i16 n1]) := KX_11.out.keep hb
  have HV_12 : Hid (Below z3.heap.size z3 w10) := HV_11.out.trans (hb.mono HV_11.out.size)
  have MG_12 : Hid (MkdN w10 Ag hsg (L) 1) := MG_11.out.below hb
  have HN_12 : Hid (OwnN w10 u2.heap.size 59 45 3 wcells A2 c2 hs2 (L)) := HN_11.out.keep hb
  clear hb HB_11 KX_11 HV_11 MG_11 HN_11
  go_wp2_with fail
  refine (hdRk_any L hsg Ag _ (1) _ (by omega) (by omega) hLl MG_12.out).mono ?_
  rintro e w' ⟨rfl, rfl⟩
  go_wp2
  go_ret
  exact ⟨rfl, HB_12.out⟩
end Go.Proofs.YtceinefoljcgkaaDoor
