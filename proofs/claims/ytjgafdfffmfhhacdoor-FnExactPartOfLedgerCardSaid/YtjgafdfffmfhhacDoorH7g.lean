/-
  FnExactPartOfLedger: for all arguments the law returns true, and they read as before. No condition but that the sentinel errors hold what the program's text lays (tied).
-/
import Derived.Test.YtjgafdfffmfhhacDoorCards
import Derived.Test.YtjgafdfffmfhhacDoorTie
import Derived.Test.YtjgafdfffmfhhacDoorG
import Derived.Test.YtjgafdfffmfhhacDoorPt
import Derived.Test.YtjgafdfffmfhhacDoorGk
import Derived.Test.YtjgafdfffmfhhacDoorMkE
import Derived.SevenTiedAt
namespace Go.Proofs.YtjgafdfffmfhhacDoor
open Go.ChangeShapes Go.WideShapes Go.ChangeAt Go.RowKit Go.Deep

set_option maxRecDepth 100000 in
set_option maxHeartbeats 4000000 in
theorem pl6Law_any (l : List Ent) (A : Option Addr) (c : Nat) (n : Int) (q : Int) (ad : Nat → Addr) (w : World) (hl0 : l.length ≤ 9223372036854775807) (hr0 : Rd w w.heap.size ecells A l) (hw0 : ∀ x ∈ l, wfE x) (hsn : wfI6 n) (hsq : wfI6 q) (hE : EW 7 w ad) :
    Calls Tryd.prog 3 #[.int .i64 n, .slice A l.length c, .int .i64 q] w (Good w) := by
  have HR0 := Lib.hid hr0
  have HW0 := Lib.hid hw0
  have HSn := Lib.hid hsn
  have HSq := Lib.hid hsq
  have HE := Lib.hid hE
  clear hE
  clear hr0 hw0 hsn hsq
  go_enter Tryd.func3, Tryd.ntmps3
  go_wp2_with fail
  refine (szEntryS_any A l.length c (1048576) hl0 ⟨by omega, by omega⟩ _).mono ?_
  rintro e w' ⟨rfl, rfl⟩
  by_cases hn0 : (1048576 : Int) < l.length
  · rw [if_pos hn0]
    go_wp2
    go_ret
    exact ⟨rfl, (Below.refl _ _)⟩
  rw [if_neg hn0]
  have hz0 : (0 : Int) ≤ 1048576 - l.length := by omega
  have hm0 : l.length ≤ 1048576 := by omega
  have HB_0 : Hid (Below w.heap.size w w) := Below.refl _ _
  go_wp2_with fail
  refine (toEntryS_any l A c _ hm0 (HR0.out.keep HB_0.out)).mono ?_
  rintro e w1 ⟨rfl, hR, hb⟩
  have HB_1 : Hid (Below w.heap.size w w1) := HB_0.out.trans (hb.mono HB_0.out.size)
  clear hb HB_0
  have Y0_1 : Hid (Rs w1 w.heap.size 49 ecells l) := hR
  clear hR
  go_wp2_with fail
  refine (specPart_any n l HW0.out q _ _ _ hm0 (Y0_1.out.rd Y0_1.out.lt)).mono ?_
  rintro e w2 ⟨v0, rfl, hO0, hb⟩
  clear Y0_1
  have HB_2 : Hid (Below w.heap.size w w2) := HB_1.out.trans (hb.mono HB_1.out.size)
  clear hb HB_1
  obtain ⟨Av0, cv0, rfl, -, hrv0⟩ := own_rd ecells_length hO0
  have RV0 : Hid (Rd w2 w2.heap.size ecells Av0 (plL n l q)) := hrv0
  clear hO0 hrv0
  have HV_2 : Hid (Below w2.heap.size w2 w2) := Below.refl _ _
  obtain ⟨cd0, hcd0⟩ : ∃ c, plC n l q = c := ⟨_, rfl⟩
  have HCD0 := Lib.hid hcd0
  clear hcd0
  rw [HCD0.out]
  go_wp2_with fail
  refine (toEntryS_any l A c _ hm0 (HR0.out.keep HB_2.out)).mono ?_
  rintro e w3 ⟨rfl, hR, hb⟩
  have LE0 : Hid (w.heap.size ≤ w2.heap.size) := HB_2.out.size
  have LE1 : Hid (w2.heap.size ≤ w2.heap.size) := HV_2.out.size
  have HB_3 : Hid (Below w.heap.size w w3) := HB_2.out.trans (hb.mono HB_2.out.size)
  have HV_3 : Hid (Below w2.heap.size w2 w3) := HV_2.out.trans (hb.mono HV_2.out.size)
  clear hb HB_2 HV_2
  have X0_3 : Hid (Rs w3 w2.heap.size 49 ecells l) := hR
  clear hR
  go_wp2_with fail
  refine (implPart_any n l HW0.out q HSq.out _ _ ad _ hm0 (X0_3.out.rd X0_3.out.lt) (HE.out.below HB_3.out (Nat.le_refl _))).mono ?_
  rintro e w4 ⟨g0, rfl, hO0, hb⟩
  have LE2 : Hid (w.heap.size ≤ w3.heap.size) := HB_3.out.size
  have LE3 : Hid (w2.heap.size ≤ w3.heap.size) := HV_3.out.size
  have LE4 : Hid (w2.heap.size < w3.heap.size) := X0_3.out.lt
  have HB_4 : Hid (Below w.heap.size w w4) := HB_3.out.trans (hb.mono HB_3.out.size)
  have HV_4 : Hid (Below w2.heap.size w2 w4) := HV_3.out.trans (hb.mono HV_3.out.size)
  have X0_4 : Hid (Rs w4 w2.heap.size 49 ecells l) := Blk.keep X0_3.out hb
  clear hb HB_3 HV_3 X0_3
  rw [HCD0.out]
  obtain ⟨Ag0, cg0, rfl, -, -⟩ := own_rd ecells_length hO0
  have G0_4 := Lib.hid hO0
  clear hO0
  have hLlen := plL_len n l q
  go_wp2_with fail
  refine (eqEntryS_same (plL n l q) _ _ _ _ _ (by omega) (own_rd2 ecells_length G0_4.out) (RV0.out.keep HV_4.out)).mono ?_
  rintro e w5 ⟨rfl, hb⟩
  have HB_5 : Hid (Below w.heap.size w w5) := HB_4.out.trans (hb.mono HB_4.out.size)
  have HV_5 : Hid (Below w2.heap.size w2 w5) := HV_4.out.trans (hb.mono HV_4.out.size)
  have X0_5 : Hid (Rs w5 w2.heap.size 49 ecells l) := Blk.keep X0_4.out hb
  have G0_5 : Hid (w5.ownsRow w3.heap.size 49 5 (.slice Ag0 (plL n l q).length cg0) (plL n l q).length ((plL n l q).flatMap ecells)) := own_keep' G0_4.out hb
  clear hb HB_4 HV_4 X0_4 G0_4
  go_wp2_with fail
  refine (toEntryS_any l A c _ hm0 (HR0.out.keep HB_5.out)).mono ?_
  rintro e w6 ⟨rfl, hR, hb⟩
  have HB_6 : Hid (Below w.heap.size w w6) := HB_5.out.trans (hb.mono HB_5.out.size)
  have HV_6 : Hid (Below w2.heap.size w2 w6) := HV_5.out.trans (hb.mono HV_5.out.size)
  have X0_6 : Hid (Rs w6 w2.heap.size 49 ecells l) := Blk.keep X0_5.out hb
  have G0_6 : Hid (w6.ownsRow w3.heap.size 49 5 (.slice Ag0 (plL n l q).length cg0) (plL n l q).length ((plL n l q).flatMap ecells)) := own_keep' G0_5.out hb
  clear hb HB_5 HV_5 X0_5 G0_5
  have Z0_6 : Hid (Rs w6 w5.heap.size 49 ecells l) := hR
  clear hR
  go_wp2_with fail
  refine (eqEntryS_same l _ _ _ _ _ (by omega) (X0_6.out.rd X0_6.out.lt) (Z0_6.out.rd Z0_6.out.lt)).mono ?_
  rintro e w7 ⟨rfl, hb⟩
  clear Z0_6
  have HB_7 : Hid (Below w.heap.size w w7) := HB_6.out.trans (hb.mono HB_6.out.size)
  have HV_7 : Hid (Below w2.heap.size w2 w7) := HV_6.out.trans (hb.mono HV_6.out.size)
  have X0_7 : Hid (Rs w7 w2.heap.size 49 ecells l) := Blk.keep X0_6.out hb
  have G0_7 : Hid (w7.ownsRow w3.heap.size 49 5 (.slice Ag0 (plL n l q).length cg0) (plL n l q).length ((plL n l q).flatMap ecells)) := own_keep' G0_6.out hb
  clear hb HB_6 HV_6 X0_6 G0_6
  have hnn0 : (0 : Int) ≤ (l.length : Int) := Int.natCast_nonneg _
  have SR := gk_rs ecells_length X0_7.out
  clear X0_7
  go_wp2_with fail
  refine (mkE_any l.length _ _ (1) _ (by omega) (by omega) SR).mono ?_
  rintro e w8 ⟨rfl, -, hg, -⟩
  clear SR
  have HB_8 : Hid (Below w.heap.size w w8) := HB_7.out.grown hg HB_7.out.size (fun k e => by obtain rfl := Option.some.inj e; have l0 := LE0.out; have l1 := LE1.out; have l2 := LE2.out; have l3 := LE3.out; have l4 := LE4.out; omega)
  have HV_8 : Hid (Below w2.heap.size w2 w8) := HV_7.out.grown hg HV_7.out.size (fun k e => by obtain rfl := Option.some.inj e; have l0 := LE0.out; have l1 := LE1.out; have l2 := LE2.out; have l3 := LE3.out; have l4 := LE4.out; omega)
  have G0_8 : Hid (w8.ownsRow w3.heap.size 49 5 (.slice Ag0 (plL n l q).length cg0) (plL n l q).length ((plL n l q).flatMap ecells)) := gk_own G0_7.out hg (fun k e => by obtain rfl := Option.some.inj e; dsimp only; have l0 := LE0.out; have l1 := LE1.out; have l2 := LE2.out; have l3 := LE3.out; have l4 := LE4.out; omega)
  clear hg HB_7 HV_7 G0_7
  have hkn : ¬ (1 + 5 * (l.length : Int) < 0) := by omega
  go_wp2_with fail
  refine (eqEntryS_same (plL n l q) _ _ _ _ _ (by omega) (own_rd2 ecells_length G0_8.out) (RV0.out.keep HV_8.out)).mono ?_
  rintro e w9 ⟨rfl, hb⟩
  have HB_9 : Hid (Below w.heap.size w w9) := HB_8.out.trans (hb.mono HB_8.out.size)
  have HV_9 : Hid (Below w2.heap.size w2 w9) := HV_8.out.trans (hb.mono HV_8.out.size)
  have G0_9 : Hid (w9.ownsRow w3.heap.size 49 5 (.slice Ag0 (plL n l q).length cg0) (plL n l q).length ((plL n l q).flatMap ecells)) := own_keep' G0_8.out hb
  clear hb HB_8 HV_8 G0_8
  have hgn0 : (0 : Int) ≤ ((plL n l q).length : Int) := Int.natCast_nonneg _
  have SR := gk_src G0_9.out
  have GE := gk_ge G0_9.out
  clear G0_9
  go_wp2_with fail
  refine (mkE_any (plL n l q).length Ag0 _ (1) _ (by omega) (by omega) SR).mono ?_
  rintro e w10 ⟨rfl, hM, hg, -⟩
  clear SR
  have HB_10 : Hid (Below w.heap.size w w10) := HB_9.out.grown hg HB_9.out.size (fun k e => by have lk := GE k e; have l0 := LE0.out; have l1 := LE1.out; have l2 := LE2.out; have l3 := LE3.out; have l4 := LE4.out; omega)
  have HV_10 : Hid (Below w2.heap.size w2 w10) := HV_9.out.grown hg HV_9.out.size (fun k e => by have lk := GE k e; have l0 := LE0.out; have l1 := LE1.out; have l2 := LE2.out; have l3 := LE3.out; have l4 := LE4.out; omega)
  clear hg HB_9 HV_9
  clear GE
  have M0_10 : Hid (MkdE w10 Ag0 (plL n l q).length (1)) := hM
  clear hM
  have hmn : ¬ (1 + 5 * (((plL n l q).length : Nat) : Int) < 0) := by omega
  go_wp2_with fail
  refine (hdE_any (plL n l q).length Ag0 _ (1) _ (by omega) (by omega) M0_10.out).mono ?_
  rintro e w' ⟨rfl, rfl⟩
  go_wp2_with fail
  refine (toEntryS_any l A c _ hm0 (HR0.out.keep HB_10.out)).mono ?_
  rintro e w11 ⟨rfl, hR, hb⟩
  have HB_11 : Hid (Below w.heap.size w w11) := HB_10.out.trans (hb.mono HB_10.out.size)
  have HV_11 : Hid (Below w2.heap.size w2 w11) := HV_10.out.trans (hb.mono HV_10.out.size)
  have M0_11 : Hid (MkdE w11 Ag0 (plL n l q).length (1)) := M0_10.out.below hb
  clear hb HB_10 HV_10 M0_10
  have T0_11 : Hid (Rs w11 w10.heap.size 49 ecells l) := hR
  clear hR
  go_wp2_with fail
  refine (implPart_any n l HW0.out q HSq.out _ _ ad _ hm0 (T0_11.out.rd T0_11.out.lt) (HE.out.below HB_11.out (Nat.le_refl _))).mono ?_
  rintro e w12 ⟨h0, rfl, hO0, hb⟩
  clear T0_11
  have HB_12 : Hid (Below w.heap.size w w12) := HB_11.out.trans (hb.mono HB_11.out.size)
  have HV_12 : Hid (Below w2.heap.size w2 w12) := HV_11.out.trans (hb.mono HV_11.out.size)
  have M0_12 : Hid (MkdE w12 Ag0 (plL n l q).length (1)) := M0_11.out.below hb
  clear hb HB_11 HV_11 M0_11
  rw [HCD0.out]
  obtain ⟨Ah0, ch0, rfl, -, -⟩ := own_rd ecells_length hO0
  have H0_12 := Lib.hid hO0
  clear hO0
  go_wp2_with fail
  refine (eqEntryS_same (plL n l q) _ _ _ _ _ (by omega) (own_rd2 ecells_length H0_12.out) (RV0.out.keep HV_12.out)).mono ?_
  rintro e w13 ⟨rfl, hb⟩
  have HB_13 : Hid (Below w.heap.size w w13) := HB_12.out.trans (hb.mono HB_12.out.size)
  have HV_13 : Hid (Below w2.heap.size w2 w13) := HV_12.out.trans (hb.mono HV_12.out.size)
  have H0_13 : Hid (w13.ownsRow w11.heap.size 49 5 (.slice Ah0 (plL n l q).length ch0) (plL n l q).length ((plL n l q).flatMap ecells)) := own_keep' H0_12.out hb
  have M0_13 : Hid (MkdE w13 Ag0 (plL n l q).length (1)) := M0_12.out.below hb
  clear hb HB_12 HV_12 H0_12 M0_12
  go_wp2_with fail
  refine (hdE_any (plL n l q).length Ag0 _ (1) _ (by omega) (by omega) M0_13.out).mono ?_
  rintro e w' ⟨rfl, rfl⟩
  go_wp2
  go_ret
  exact ⟨rfl, HB_13.out⟩
end Go.Proofs.YtjgafdfffmfhhacDoor
