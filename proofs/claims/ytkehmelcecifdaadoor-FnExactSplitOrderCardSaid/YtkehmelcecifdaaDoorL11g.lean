/-
  FnExactSplitOrder: for all arguments the law returns true, and they read as before. No condition but that the sentinel errors hold what the program's text lays (tied).
-/
import Derived.Test.YtkehmelcecifdaaDoorCards
import Derived.Test.YtkehmelcecifdaaDoorTie
import Derived.Test.YtkehmelcecifdaaDoorG
import Derived.Test.YtkehmelcecifdaaDoorTt3
import Derived.Test.YtkehmelcecifdaaDoorYm
import Derived.Test.YtkehmelcecifdaaDoorGk
import Derived.Test.YtkehmelcecifdaaDoorMkWS
import Derived.Test.YtkehmelcecifdaaDoorMkW
import Derived.SevenTiedAt
namespace Go.Proofs.YtkehmelcecifdaaDoor
open Go.ChangeShapes Go.WideShapes Go.ChangeAt Go.RowKit Go.Deep
theorem sum_bndW {T : Type} (K J : Nat) (xss : List (List T)) (hl : xss.length ≤ K) (hx : ∀ ys ∈ xss, ys.length ≤ J) : sumL xss ≤ K * J := by
  induction xss generalizing K with
  | nil => simp [sumL]
  | cons a l ih =>
    have h1 := hx a (by simp)
    simp only [List.length_cons] at hl
    obtain ⟨K', rfl⟩ : ∃ K', K = K' + 1 := ⟨K - 1, by omega⟩
    have h2 := ih K' (by omega) (fun ys h => hx ys (by simp [h]))
    simp only [sumL, List.map_cons, List.sum_cons] at h2 ⊢
    rw [Nat.add_mul]
    omega

set_option maxRecDepth 100000 in
set_option maxHeartbeats 4000000 in
theorem spLaw_any (ord : List Wnt) (A : Option Addr) (c : Nat) (m : Int) (ad : Nat → Addr) (w : World) (hl0 : ord.length ≤ 9223372036854775807) (hr0 : Rd w w.heap.size wcells A ord) (hw0 : ∀ x ∈ ord, wfW x) (hsm : wfI6 m) (hE : EW 7 w ad) :
    Calls Tryd.prog 4 #[.slice A ord.length c, .int .i64 m] w (Good w) := by
  have HR0 := Lib.hid hr0
  have HW0 := Lib.hid hw0
  have HSm := Lib.hid hsm
  have HE := Lib.hid hE
  clear hE
  clear hr0 hw0 hsm
  go_enter Tryd.func4, Tryd.ntmps4
  go_wp2_with fail
  refine (szWantS_any A ord.length c (1048576) hl0 ⟨by omega, by omega⟩ _).mono ?_
  rintro e w' ⟨rfl, rfl⟩
  by_cases hn0 : (1048576 : Int) < ord.length
  · rw [if_pos hn0]
    go_wp2
    go_ret
    exact ⟨rfl, (Below.refl _ _)⟩
  rw [if_neg hn0]
  have hz0 : (0 : Int) ≤ 1048576 - ord.length := by omega
  have hm0 : ord.length ≤ 1048576 := by omega
  have HB_0 : Hid (Below w.heap.size w w) := Below.refl _ _
  go_wp2_with fail
  refine (toWantS_any ord A c _ hm0 (HR0.out.keep HB_0.out)).mono ?_
  rintro e w1 ⟨rfl, hR, hb⟩
  have HB_1 : Hid (Below w.heap.size w w1) := HB_0.out.trans (hb.mono HB_0.out.size)
  clear hb HB_0
  have Y0_1 : Hid (Rs w1 w.heap.size 91 wcells ord) := hR
  clear hR
  go_wp2_with fail
  refine (specSplit_any ord HW0.out m _ _ _ hm0 (Y0_1.out.rd Y0_1.out.lt)).mono ?_
  rintro e w2 ⟨Av0, cv0, rfl, hN0, hb⟩
  clear Y0_1
  have HB_2 : Hid (Below w.heap.size w w2) := HB_1.out.trans (hb.mono HB_1.out.size)
  clear hb HB_1
  have RV0 : Hid (RdN w2 w2.heap.size wcells Av0 (soL ord m)) := hN0
  clear hN0
  have HV_2 : Hid (Below w2.heap.size w2 w2) := Below.refl _ _
  obtain ⟨cd0, hcd0⟩ : ∃ c, soC ord m = c := ⟨_, rfl⟩
  have HCD0 := Lib.hid hcd0
  clear hcd0
  rw [HCD0.out]
  go_wp2_with fail
  refine (toWantS_any ord A c _ hm0 (HR0.out.keep HB_2.out)).mono ?_
  rintro e w3 ⟨rfl, hR, hb⟩
  have LE0 : Hid (w.heap.size ≤ w2.heap.size) := HB_2.out.size
  have LE1 : Hid (w2.heap.size ≤ w2.heap.size) := HV_2.out.size
  have HB_3 : Hid (Below w.heap.size w w3) := HB_2.out.trans (hb.mono HB_2.out.size)
  have HV_3 : Hid (Below w2.heap.size w2 w3) := HV_2.out.trans (hb.mono HV_2.out.size)
  clear hb HB_2 HV_2
  have X0_3 : Hid (Rs w3 w2.heap.size 91 wcells ord) := hR
  clear hR
  go_wp2_with fail
  refine (implSplit_any ord HW0.out m _ _ (Nat.le_refl _) ad _ hm0 (X0_3.out.rd X0_3.out.lt) (HE.out.below HB_3.out (Nat.le_refl _))).mono ?_
  rintro e w4 ⟨Ag0, cg0, hsg0, rfl, hN0, hb⟩
  have LE2 : Hid (w.heap.size ≤ w3.heap.size) := HB_3.out.size
  have LE3 : Hid (w2.heap.size ≤ w3.heap.size) := HV_3.out.size
  have LE4 : Hid (w2.heap.size < w3.heap.size) := X0_3.out.lt
  have LE5 : Hid (w3.heap.size ≤ w4.heap.size) := hb.size
  have HB_4 : Hid (Below w.heap.size w w4) := HB_3.out.trans (hb.mono HB_3.out.size)
  have HV_4 : Hid (Below w2.heap.size w2 w4) := HV_3.out.trans (hb.mono HV_3.out.size)
  have X0_4 : Hid (Rs w4 w2.heap.size 91 wcells ord) := Blk.keep X0_3.out hb
  clear hb HB_3 HV_3 X0_3
  rw [HCD0.out]
  have N0_4 := Lib.hid hN0
  clear hN0
  have HGS0 := Lib.hid (own_srcW N0_4.out).2.2.2.2.2
  have hLl : (soL ord m).length ≤ 1048576 := Nat.le_trans (soL_len ord m) (by decide)
  have HLx : Hid (∀ ys ∈ soL ord m, ys.length ≤ 1048576) := fun ys h => Nat.le_trans (soL_each ord m ys h) (by decide)
  have hLn : sumL (soL ord m) ≤ 1048576 * 1048576 := sum_bndW _ _ _ hLl HLx.out
  go_wp2_with fail
  refine (eqWantSS_same (soL ord m) _ _ _ _ _ (by omega) HLx.out (N0_4.out.rd wcells_length) (RV0.out.keep HV_4.out)).mono ?_
  rintro e w5 ⟨rfl, hb⟩
  have HB_5 : Hid (Below w.heap.size w w5) := HB_4.out.trans (hb.mono HB_4.out.size)
  have HV_5 : Hid (Below w2.heap.size w2 w5) := HV_4.out.trans (hb.mono HV_4.out.size)
  have X0_5 : Hid (Rs w5 w2.heap.size 91 wcells ord) := Blk.keep X0_4.out hb
  have N0_5 : Hid (OwnN w5 w3.heap.size 46 91 3 wcells Ag0 cg0 hsg0 (soL ord m)) := N0_4.out.keep hb
  clear hb HB_4 HV_4 X0_4 N0_4
  go_wp2_with fail
  refine (toWantS_any ord A c _ hm0 (HR0.out.keep HB_5.out)).mono ?_
  rintro e w6 ⟨rfl, hR, hb⟩
  have HB_6 : Hid (Below w.heap.size w w6) := HB_5.out.trans (hb.mono HB_5.out.size)
  have HV_6 : Hid (Below w2.heap.size w2 w6) := HV_5.out.trans (hb.mono HV_5.out.size)
  have X0_6 : Hid (Rs w6 w2.heap.size 91 wcells ord) := Blk.keep X0_5.out hb
  have N0_6 : Hid (OwnN w6 w3.heap.size 46 91 3 wcells Ag0 cg0 hsg0 (soL ord m)) := N0_5.out.keep hb
  clear hb HB_5 HV_5 X0_5 N0_5
  have Z0_6 : Hid (Rs w6 w5.heap.size 91 wcells ord) := hR
  clear hR
  go_wp2_with fail
  refine (eqWantS_same ord _ _ _ _ _ (by omega) (X0_6.out.rd X0_6.out.lt) (Z0_6.out.rd Z0_6.out.lt)).mono ?_
  rintro e w7 ⟨rfl, hb⟩
  clear Z0_6
  have HB_7 : Hid (Below w.heap.size w w7) := HB_6.out.trans (hb.mono HB_6.out.size)
  have HV_7 : Hid (Below w2.heap.size w2 w7) := HV_6.out.trans (hb.mono HV_6.out.size)
  have X0_7 : Hid (Rs w7 w2.heap.size 91 wcells ord) := Blk.keep X0_6.out hb
  have N0_7 : Hid (OwnN w7 w3.heap.size 46 91 3 wcells Ag0 cg0 hsg0 (soL ord m)) := N0_6.out.keep hb
  clear hb HB_6 HV_6 X0_6 N0_6
  have hnn0 : (0 : Int) ≤ (ord.length : Int) := Int.natCast_nonneg _
  have SR := gk_rs wcells_length X0_7.out
  clear X0_7
  go_wp2_with fail
  refine (mkW_any ord.length _ _ (1) _ (by omega) (by omega) SR).mono ?_
  rintro e w8 ⟨rfl, -, hg, -⟩
  clear SR
  have hO : Only (fun q => q = w2.heap.size) w7 w8 := Only.of_grown hg (fun q e => (Option.some.inj e).symm)
  have hS : ∀ q, q = w2.heap.size → w2.heap.size ≤ q ∧ q ≤ w2.heap.size := fun q e => by omega
  clear hg
  have HB_8 : Hid (Below w.heap.size w w8) := hO.below HB_7.out HB_7.out.size (fun k e => by have lk := hS k e; have l0 := LE0.out; have l1 := LE1.out; have l2 := LE2.out; have l3 := LE3.out; have l4 := LE4.out; have l5 := LE5.out; omega)
  have HV_8 : Hid (Below w2.heap.size w2 w8) := hO.below HV_7.out HV_7.out.size (fun k e => by have lk := hS k e; have l0 := LE0.out; have l1 := LE1.out; have l2 := LE2.out; have l3 := LE3.out; have l4 := LE4.out; have l5 := LE5.out; omega)
  have N0_8 : Hid (OwnN w8 w3.heap.size 46 91 3 wcells Ag0 cg0 hsg0 (soL ord m)) := N0_7.out.only hO (fun k e => by have lk := hS k e; have l0 := LE0.out; have l1 := LE1.out; have l2 := LE2.out; have l3 := LE3.out; have l4 := LE4.out; have l5 := LE5.out; omega)
  clear hO hS HB_7 HV_7 N0_7
  have hkn : ¬ (1 + 3 * (ord.length : Int) < 0) := by omega
  go_wp2_with fail
  refine (eqWantSS_same (soL ord m) _ _ _ _ _ (by omega) HLx.out (N0_8.out.rd wcells_length) (RV0.out.keep HV_8.out)).mono ?_
  rintro e w9 ⟨rfl, hb⟩
  have HB_9 : Hid (Below w.heap.size w w9) := HB_8.out.trans (hb.mono HB_8.out.size)
  have HV_9 : Hid (Below w2.heap.size w2 w9) := HV_8.out.trans (hb.mono HV_8.out.size)
  have N0_9 : Hid (OwnN w9 w3.heap.size 46 91 3 wcells Ag0 cg0 hsg0 (soL ord m)) := N0_8.out.keep hb
  clear hb HB_8 HV_8 N0_8
  have hgx0 : (0 : Int) ≤ (sumL (soL ord m) : Int) := Int.natCast_nonneg _
  obtain ⟨q1, q2, q3, q4, q5, q6⟩ := own_srcW N0_9.out
  clear N0_9
  go_wp2_with fail
  refine (mkWantSS_any (soL ord m) hsg0 Ag0 _ (1) _ (by omega) (by omega) (by omega) q1 q2 q3 q4 q5).mono ?_
  rintro e w10 ⟨rfl, hM, hO⟩
  have hS := HGS0.out
  clear q1 q2 q3 q4 q5 q6 HGS0
  have HB_10 : Hid (Below w.heap.size w w10) := hO.below HB_9.out HB_9.out.size (fun k e => by have lk := hS k e; have l0 := LE0.out; have l1 := LE1.out; have l2 := LE2.out; have l3 := LE3.out; have l4 := LE4.out; have l5 := LE5.out; omega)
  have HV_10 : Hid (Below w2.heap.size w2 w10) := hO.below HV_9.out HV_9.out.size (fun k e => by have lk := hS k e; have l0 := LE0.out; have l1 := LE1.out; have l2 := LE2.out; have l3 := LE3.out; have l4 := LE4.out; have l5 := LE5.out; omega)
  clear hO hS HB_9 HV_9
  have Q0_10 : Hid (MkdWS w10 Ag0 hsg0 (soL ord m) 1) := hM
  clear hM
  have hmn : ¬ (1 + 3 * (sumL (soL ord m) : Int) < 0) := by omega
  go_wp2_with fail
  refine (hdWantSS_any (soL ord m) hsg0 Ag0 _ (1) _ (by omega) (by omega) (by omega) Q0_10.out).mono ?_
  rintro e w' ⟨rfl, rfl⟩
  go_wp2_with fail
  refine (toWantS_any ord A c _ hm0 (HR0.out.keep HB_10.out)).mono ?_
  rintro e w11 ⟨rfl, hR, hb⟩
  have HB_11 : Hid (Below w.heap.size w w11) := HB_10.out.trans (hb.mono HB_10.out.size)
  have HV_11 : Hid (Below w2.heap.size w2 w11) := HV_10.out.trans (hb.mono HV_10.out.size)
  have Q0_11 : Hid (MkdWS w11 Ag0 hsg0 (soL ord m) 1) := Q0_10.out.below hb
  clear hb HB_10 HV_10 Q0_10
  have T0_11 : Hid (Rs w11 w10.heap.size 91 wcells ord) := hR
  clear hR
  go_wp2_with fail
  refine (implSplit_any ord HW0.out m _ _ (Nat.le_refl _) ad _ hm0 (T0_11.out.rd T0_11.out.lt) (HE.out.below HB_11.out (Nat.le_refl _))).mono ?_
  rintro e w12 ⟨Ah0, ch0, hsh0, rfl, hN0, hb⟩
  clear T0_11
  have HB_12 : Hid (Below w.heap.size w w12) := HB_11.out.trans (hb.mono HB_11.out.size)
  have HV_12 : Hid (Below w2.heap.size w2 w12) := HV_11.out.trans (hb.mono HV_11.out.size)
  have Q0_12 : Hid (MkdWS w12 Ag0 hsg0 (soL ord m) 1) := Q0_11.out.below hb
  clear hb HB_11 HV_11 Q0_11
  rw [HCD0.out]
  have P0_12 := Lib.hid hN0
  clear hN0
  go_wp2_with fail
  refine (eqWantSS_same (soL ord m) _ _ _ _ _ (by omega) HLx.out (P0_12.out.rd wcells_length) (RV0.out.keep HV_12.out)).mono ?_
  rintro e w13 ⟨rfl, hb⟩
  have HB_13 : Hid (Below w.heap.size w w13) := HB_12.out.trans (hb.mono HB_12.out.size)
  have HV_13 : Hid (Below w2.heap.size w2 w13) := HV_12.out.trans (hb.mono HV_12.out.size)
  have P0_13 : Hid (OwnN w13 w11.heap.size 46 91 3 wcells Ah0 ch0 hsh0 (soL ord m)) := P0_12.out.keep hb
  have Q0_13 : Hid (MkdWS w13 Ag0 hsg0 (soL ord m) 1) := Q0_12.out.below hb
  clear hb HB_12 HV_12 P0_12 Q0_12
  go_wp2_with fail
  refine (hdWantSS_any (soL ord m) hsg0 Ag0 _ (1) _ (by omega) (by omega) (by omega) Q0_13.out).mono ?_
  rintro e w' ⟨rfl, rfl⟩
  go_wp2
  go_ret
  exact ⟨rfl, HB_13.out⟩
end Go.Proofs.YtkehmelcecifdaaDoor
