/-
  FnExactMissedWalks: for all arguments the law returns true, and they read as before. No condition but that the sentinel errors hold what the program's text lays (tied).
-/
import Derived.Test.YtlfamfdgphhbcabDoorCards
import Derived.Test.YtlfamfdgphhbcabDoorTie
import Derived.Test.YtlfamfdgphhbcabDoorG
import Derived.Test.YtlfamfdgphhbcabDoorMw2
import Derived.Test.YtlfamfdgphhbcabDoorMw3
import Derived.Test.YtlfamfdgphhbcabDoorMw4
import Derived.Test.YtlfamfdgphhbcabDoorGk
import Derived.Test.YtlfamfdgphhbcabDoorMkV
import Derived.Test.YtlfamfdgphhbcabDoorMkY
import Derived.SevenTiedAt
namespace Go.Proofs.YtlfamfdgphhbcabDoor
open Go.ChangeShapes Go.WideShapes Go.ChangeAt Go.RowKit Go.Deep

set_option maxRecDepth 100000 in
set_option maxHeartbeats 4000000 in
theorem mwLaw_any (r : List Int) (l : List Wal) (s : List Int) (A : Option Addr) (c : Nat) (B : Option Addr) (d2 : Nat) (As : Option Addr) (cs : Nat) (d : Int) (ad : Nat → Addr) (w : World) (hl0 : r.length ≤ 9223372036854775807) (hr0 : Rd w w.heap.size ycells A r) (hw0 : ∀ x ∈ r, wfY x) (hl1 : l.length ≤ 9223372036854775807) (hr1 : Rd w w.heap.size vcells B l) (hw1 : ∀ x ∈ l, wfV x) (hl2 : s.length ≤ 9223372036854775807) (hr2 : Rd w w.heap.size ycells As s) (hw2 : ∀ x ∈ s, wfY x) (hsd : wfI6 d) (hE : EW 7 w ad) :
    Calls Tryd.prog 4 #[.slice A r.length c, .slice B l.length d2, .int .i64 d, .slice As s.length cs] w (Good w) := by
  have HR0 := Lib.hid hr0
  have HW0 := Lib.hid hw0
  have HR1 := Lib.hid hr1
  have HW1 := Lib.hid hw1
  have HR2 := Lib.hid hr2
  have HW2 := Lib.hid hw2
  have HSd := Lib.hid hsd
  have HE := Lib.hid hE
  clear hE
  clear hr0 hw0 hr1 hw1 hr2 hw2 hsd
  go_enter Tryd.func4, Tryd.ntmps4
  by_cases hq0 : (1048576 : Int) < r.length
  · go_wp2
    go_ret
    exact ⟨rfl, (Below.refl _ _)⟩
  have hm0 : r.length ≤ 1048576 := by omega
  by_cases hq2 : (1048576 : Int) < s.length
  · go_wp2
    go_ret
    exact ⟨rfl, (Below.refl _ _)⟩
  have hm2 : s.length ≤ 1048576 := by omega
  go_wp2_with fail
  refine (szWalkerS_any B l.length d2 (1048576) hl1 ⟨by omega, by omega⟩ _).mono ?_
  rintro e w' ⟨rfl, rfl⟩
  by_cases hn1 : (1048576 : Int) < l.length
  · rw [if_pos hn1]
    go_wp2
    go_ret
    exact ⟨rfl, (Below.refl _ _)⟩
  rw [if_neg hn1]
  have hz1 : (0 : Int) ≤ 1048576 - l.length := by omega
  have hm1 : l.length ≤ 1048576 := by omega
  have HB_0 : Hid (Below w.heap.size w w) := Below.refl _ _
  go_wp2_with fail
  refine (toRow_any r A c _ hm0 (HR0.out.keep HB_0.out)).mono ?_
  rintro e w1 ⟨rfl, hR, hb⟩
  have HB_1 : Hid (Below w.heap.size w w1) := HB_0.out.trans (hb.mono HB_0.out.size)
  clear hb HB_0
  have Y0_1 : Hid (Rs w1 w.heap.size 5 ycells r) := hR
  clear hR
  go_wp2_with fail
  refine (toWalkerS_any l B d2 _ hm1 (HR1.out.keep HB_1.out)).mono ?_
  rintro e w2 ⟨rfl, hR, hb⟩
  have HB_2 : Hid (Below w.heap.size w w2) := HB_1.out.trans (hb.mono HB_1.out.size)
  have Y0_2 : Hid (Rs w2 w.heap.size 5 ycells r) := Blk.keep Y0_1.out hb
  clear hb HB_1 Y0_1
  have Y1_2 : Hid (Rs w2 w1.heap.size 80 vcells l) := hR
  clear hR
  go_wp2_with fail
  refine (toRow_any s As cs _ hm2 (HR2.out.keep HB_2.out)).mono ?_
  rintro e w3 ⟨rfl, hR, hb⟩
  have HB_3 : Hid (Below w.heap.size w w3) := HB_2.out.trans (hb.mono HB_2.out.size)
  have Y0_3 : Hid (Rs w3 w.heap.size 5 ycells r) := Blk.keep Y0_2.out hb
  have Y1_3 : Hid (Rs w3 w1.heap.size 80 vcells l) := Blk.keep Y1_2.out hb
  clear hb HB_2 Y0_2 Y1_2
  have Y2_3 : Hid (Rs w3 w2.heap.size 5 ycells s) := hR
  clear hR
  go_wp2_with fail
  refine (specMissed_any r HW0.out l HW1.out d s _ _ _ _ _ _ _ hm0 hm1 hm2 (Y0_3.out.rd Y0_3.out.lt) (Y1_3.out.rd Y1_3.out.lt) (Y2_3.out.rd Y2_3.out.lt)).mono ?_
  rintro e w4 ⟨v0, rfl, hO0, hb⟩
  clear Y0_3
  clear Y1_3
  clear Y2_3
  have HB_4 : Hid (Below w.heap.size w w4) := HB_3.out.trans (hb.mono HB_3.out.size)
  clear hb HB_3
  obtain ⟨Av0, cv0, rfl, -, hrv0⟩ := own_rd p2cells_length hO0
  have RV0 : Hid (Rd w4 w4.heap.size p2cells Av0 (mwL r l d s)) := hrv0
  clear hO0 hrv0
  have HV_4 : Hid (Below w4.heap.size w4 w4) := Below.refl _ _
  obtain ⟨cd0, hcd0⟩ : ∃ c, mwC r l d s = c := ⟨_, rfl⟩
  have HCD0 := Lib.hid hcd0
  clear hcd0
  rw [HCD0.out]
  go_wp2_with fail
  refine (toRow_any r A c _ hm0 (HR0.out.keep HB_4.out)).mono ?_
  rintro e w5 ⟨rfl, hR, hb⟩
  have LE0 : Hid (w.heap.size ≤ w4.heap.size) := HB_4.out.size
  have LE1 : Hid (w4.heap.size ≤ w4.heap.size) := HV_4.out.size
  have HB_5 : Hid (Below w.heap.size w w5) := HB_4.out.trans (hb.mono HB_4.out.size)
  have HV_5 : Hid (Below w4.heap.size w4 w5) := HV_4.out.trans (hb.mono HV_4.out.size)
  clear hb HB_4 HV_4
  have X0_5 : Hid (Rs w5 w4.heap.size 5 ycells r) := hR
  clear hR
  go_wp2_with fail
  refine (toWalkerS_any l B d2 _ hm1 (HR1.out.keep HB_5.out)).mono ?_
  rintro e w6 ⟨rfl, hR, hb⟩
  have LE2 : Hid (w.heap.size ≤ w5.heap.size) := HB_5.out.size
  have LE3 : Hid (w4.heap.size ≤ w5.heap.size) := HV_5.out.size
  have LE4 : Hid (w4.heap.size < w5.heap.size) := X0_5.out.lt
  have HB_6 : Hid (Below w.heap.size w w6) := HB_5.out.trans (hb.mono HB_5.out.size)
  have HV_6 : Hid (Below w4.heap.size w4 w6) := HV_5.out.trans (hb.mono HV_5.out.size)
  have X0_6 : Hid (Rs w6 w4.heap.size 5 ycells r) := Blk.keep X0_5.out hb
  clear hb HB_5 HV_5 X0_5
  have X1_6 : Hid (Rs w6 w5.heap.size 80 vcells l) := hR
  clear hR
  go_wp2_with fail
  refine (toRow_any s As cs _ hm2 (HR2.out.keep HB_6.out)).mono ?_
  rintro e w7 ⟨rfl, hR, hb⟩
  have LE5 : Hid (w.heap.size ≤ w6.heap.size) := HB_6.out.size
  have LE6 : Hid (w4.heap.size ≤ w6.heap.size) := HV_6.out.size
  have LE7 : Hid (w4.heap.size < w6.heap.size) := X0_6.out.lt
  have LE8 : Hid (w5.heap.size < w6.heap.size) := X1_6.out.lt
  have HB_7 : Hid (Below w.heap.size w w7) := HB_6.out.trans (hb.mono HB_6.out.size)
  have HV_7 : Hid (Below w4.heap.size w4 w7) := HV_6.out.trans (hb.mono HV_6.out.size)
  have X0_7 : Hid (Rs w7 w4.heap.size 5 ycells r) := Blk.keep X0_6.out hb
  have X1_7 : Hid (Rs w7 w5.heap.size 80 vcells l) := Blk.keep X1_6.out hb
  clear hb HB_6 HV_6 X0_6 X1_6
  have X2_7 : Hid (Rs w7 w6.heap.size 5 ycells s) := hR
  clear hR
  go_wp2_with fail
  refine (implMissed_any r HW0.out l HW1.out d s _ _ _ _ _ _ ad _ hm0 hm1 hm2 (X0_7.out.rd X0_7.out.lt) (X1_7.out.rd X1_7.out.lt) (X2_7.out.rd X2_7.out.lt) (HE.out.below HB_7.out (Nat.le_refl _))).mono ?_
  rintro e w8 ⟨g0, rfl, hO0, hb⟩
  have LE9 : Hid (w.heap.size ≤ w7.heap.size) := HB_7.out.size
  have LE10 : Hid (w4.heap.size ≤ w7.heap.size) := HV_7.out.size
  have LE11 : Hid (w4.heap.size < w7.heap.size) := X0_7.out.lt
  have LE12 : Hid (w5.heap.size < w7.heap.size) := X1_7.out.lt
  have LE13 : Hid (w6.heap.size < w7.heap.size) := X2_7.out.lt
  have HB_8 : Hid (Below w.heap.size w w8) := HB_7.out.trans (hb.mono HB_7.out.size)
  have HV_8 : Hid (Below w4.heap.size w4 w8) := HV_7.out.trans (hb.mono HV_7.out.size)
  have X0_8 : Hid (Rs w8 w4.heap.size 5 ycells r) := Blk.keep X0_7.out hb
  have X1_8 : Hid (Rs w8 w5.heap.size 80 vcells l) := Blk.keep X1_7.out hb
  have X2_8 : Hid (Rs w8 w6.heap.size 5 ycells s) := Blk.keep X2_7.out hb
  clear hb HB_7 HV_7 X0_7 X1_7 X2_7
  rw [HCD0.out]
  obtain ⟨Ag0, cg0, rfl, -, -⟩ := own_rd p2cells_length hO0
  have G0_8 := Lib.hid hO0
  clear hO0
  have hLlen := mwL_len r l d s
  go_wp2_with fail
  refine (eqInt64A2S_same (mwL r l d s) _ _ _ _ _ (by omega) (own_rd2 p2cells_length G0_8.out) (RV0.out.keep HV_8.out)).mono ?_
  rintro e w9 ⟨rfl, hb⟩
  have HB_9 : Hid (Below w.heap.size w w9) := HB_8.out.trans (hb.mono HB_8.out.size)
  have HV_9 : Hid (Below w4.heap.size w4 w9) := HV_8.out.trans (hb.mono HV_8.out.size)
  have X0_9 : Hid (Rs w9 w4.heap.size 5 ycells r) := Blk.keep X0_8.out hb
  have X1_9 : Hid (Rs w9 w5.heap.size 80 vcells l) := Blk.keep X1_8.out hb
  have X2_9 : Hid (Rs w9 w6.heap.size 5 ycells s) := Blk.keep X2_8.out hb
  have G0_9 : Hid (w9.ownsRow w7.heap.size 83 2 (.slice Ag0 (mwL r l d s).length cg0) (mwL r l d s).length ((mwL r l d s).flatMap p2cells)) := own_keep' G0_8.out hb
  clear hb HB_8 HV_8 X0_8 X1_8 X2_8 G0_8
  go_wp2_with fail
  refine (toRow_any r A c _ hm0 (HR0.out.keep HB_9.out)).mono ?_
  rintro e w10 ⟨rfl, hR, hb⟩
  have HB_10 : Hid (Below w.heap.size w w10) := HB_9.out.trans (hb.mono HB_9.out.size)
  have HV_10 : Hid (Below w4.heap.size w4 w10) := HV_9.out.trans (hb.mono HV_9.out.size)
  have X0_10 : Hid (Rs w10 w4.heap.size 5 ycells r) := Blk.keep X0_9.out hb
  have X1_10 : Hid (Rs w10 w5.heap.size 80 vcells l) := Blk.keep X1_9.out hb
  have X2_10 : Hid (Rs w10 w6.heap.size 5 ycells s) := Blk.keep X2_9.out hb
  have G0_10 : Hid (w10.ownsRow w7.heap.size 83 2 (.slice Ag0 (mwL r l d s).length cg0) (mwL r l d s).length ((mwL r l d s).flatMap p2cells)) := own_keep' G0_9.out hb
  clear hb HB_9 HV_9 X0_9 X1_9 X2_9 G0_9
  have Z0_10 : Hid (Rs w10 w9.heap.size 5 ycells r) := hR
  clear hR
  go_wp2_with fail
  refine (eqRow_same r _ _ _ _ _ (by omega) (X0_10.out.rd X0_10.out.lt) (Z0_10.out.rd Z0_10.out.lt)).mono ?_
  rintro e w11 ⟨rfl, hb⟩
  clear Z0_10
  have HB_11 : Hid (Below w.heap.size w w11) := HB_10.out.trans (hb.mono HB_10.out.size)
  have HV_11 : Hid (Below w4.heap.size w4 w11) := HV_10.out.trans (hb.mono HV_10.out.size)
  have X0_11 : Hid (Rs w11 w4.heap.size 5 ycells r) := Blk.keep X0_10.out hb
  have X1_11 : Hid (Rs w11 w5.heap.size 80 vcells l) := Blk.keep X1_10.out hb
  have X2_11 : Hid (Rs w11 w6.heap.size 5 ycells s) := Blk.keep X2_10.out hb
  have G0_11 : Hid (w11.ownsRow w7.heap.size 83 2 (.slice Ag0 (mwL r l d s).length cg0) (mwL r l d s).length ((mwL r l d s).flatMap p2cells)) := own_keep' G0_10.out hb
  clear hb HB_10 HV_10 X0_10 X1_10 X2_10 G0_10
  go_wp2_with fail
  refine (toWalkerS_any l B d2 _ hm1 (HR1.out.keep HB_11.out)).mono ?_
  rintro e w12 ⟨rfl, hR, hb⟩
  have HB_12 : Hid (Below w.heap.size w w12) := HB_11.out.trans (hb.mono HB_11.out.size)
  have HV_12 : Hid (Below w4.heap.size w4 w12) := HV_11.out.trans (hb.mono HV_11.out.size)
  have X0_12 : Hid (Rs w12 w4.heap.size 5 ycells r) := Blk.keep X0_11.out hb
  have X1_12 : Hid (Rs w12 w5.heap.size 80 vcells l) := Blk.keep X1_11.out hb
  have X2_12 : Hid (Rs w12 w6.heap.size 5 ycells s) := Blk.keep X2_11.out hb
  have G0_12 : Hid (w12.ownsRow w7.heap.size 83 2 (.slice Ag0 (mwL r l d s).length cg0) (mwL r l d s).length ((mwL r l d s).flatMap p2cells)) := own_keep' G0_11.out hb
  clear hb HB_11 HV_11 X0_11 X1_11 X2_11 G0_11
  have Z1_12 : Hid (Rs w12 w11.heap.size 80 vcells l) := hR
  clear hR
  go_wp2_with fail
  refine (eqWalkerS_same l _ _ _ _ _ (by omega) (X1_12.out.rd X1_12.out.lt) (Z1_12.out.rd Z1_12.out.lt)).mono ?_
  rintro e w13 ⟨rfl, hb⟩
  clear Z1_12
  have HB_13 : Hid (Below w.heap.size w w13) := HB_12.out.trans (hb.mono HB_12.out.size)
  have HV_13 : Hid (Below w4.heap.size w4 w13) := HV_12.out.trans (hb.mono HV_12.out.size)
  have X0_13 : Hid (Rs w13 w4.heap.size 5 ycells r) := Blk.keep X0_12.out hb
  have X1_13 : Hid (Rs w13 w5.heap.size 80 vcells l) := Blk.keep X1_12.out hb
  have X2_13 : Hid (Rs w13 w6.heap.size 5 ycells s) := Blk.keep X2_12.out hb
  have G0_13 : Hid (w13.ownsRow w7.heap.size 83 2 (.slice Ag0 (mwL r l d s).length cg0) (mwL r l d s).length ((mwL r l d s).flatMap p2cells)) := own_keep' G0_12.out hb
  clear hb HB_12 HV_12 X0_12 X1_12 X2_12 G0_12
  go_wp2_with fail
  refine (toRow_any s As cs _ hm2 (HR2.out.keep HB_13.out)).mono ?_
  rintro e w14 ⟨rfl, hR, hb⟩
  have HB_14 : Hid (Below w.heap.size w w14) := HB_13.out.trans (hb.mono HB_13.out.size)
  have HV_14 : Hid (Below w4.heap.size w4 w14) := HV_13.out.trans (hb.mono HV_13.out.size)
  have X0_14 : Hid (Rs w14 w4.heap.size 5 ycells r) := Blk.keep X0_13.out hb
  have X1_14 : Hid (Rs w14 w5.heap.size 80 vcells l) := Blk.keep X1_13.out hb
  have X2_14 : Hid (Rs w14 w6.heap.size 5 ycells s) := Blk.keep X2_13.out hb
  have G0_14 : Hid (w14.ownsRow w7.heap.size 83 2 (.slice Ag0 (mwL r l d s).length cg0) (mwL r l d s).length ((mwL r l d s).flatMap p2cells)) := own_keep' G0_13.out hb
  clear hb HB_13 HV_13 X0_13 X1_13 X2_13 G0_13
  have Z2_14 : Hid (Rs w14 w13.heap.size 5 ycells s) := hR
  clear hR
  go_wp2_with fail
  refine (eqRow_same s _ _ _ _ _ (by omega) (X2_14.out.rd X2_14.out.lt) (Z2_14.out.rd Z2_14.out.lt)).mono ?_
  rintro e w15 ⟨rfl, hb⟩
  clear Z2_14
  have HB_15 : Hid (Below w.heap.size w w15) := HB_14.out.trans (hb.mono HB_14.out.size)
  have HV_15 : Hid (Below w4.heap.size w4 w15) := HV_14.out.trans (hb.mono HV_14.out.size)
  have X0_15 : Hid (Rs w15 w4.heap.size 5 ycells r) := Blk.keep X0_14.out hb
  have X1_15 : Hid (Rs w15 w5.heap.size 80 vcells l) := Blk.keep X1_14.out hb
  have X2_15 : Hid (Rs w15 w6.heap.size 5 ycells s) := Blk.keep X2_14.out hb
  have G0_15 : Hid (w15.ownsRow w7.heap.size 83 2 (.slice Ag0 (mwL r l d s).length cg0) (mwL r l d s).length ((mwL r l d s).flatMap p2cells)) := own_keep' G0_14.out hb
  clear hb HB_14 HV_14 X0_14 X1_14 X2_14 G0_14
  have hnn0 : (0 : Int) ≤ (r.length : Int) := Int.natCast_nonneg _
  have hnn1 : (0 : Int) ≤ (l.length : Int) := Int.natCast_nonneg _
  have hnn2 : (0 : Int) ≤ (s.length : Int) := Int.natCast_nonneg _
  have SR := gk_rs ycells_length X0_15.out
  clear X0_15
  go_wp2_with fail
  refine (mkY_any r.length _ _ (1) _ (by omega) (by omega) SR).mono ?_
  rintro e w16 ⟨rfl, -, hg, -⟩
  clear SR
  have HB_16 : Hid (Below w.heap.size w w16) := HB_15.out.grown hg HB_15.out.size (fun k e => by obtain rfl := Option.some.inj e; have l0 := LE0.out; have l1 := LE1.out; have l2 := LE2.out; have l3 := LE3.out; have l4 := LE4.out; have l5 := LE5.out; have l6 := LE6.out; have l7 := LE7.out; have l8 := LE8.out; have l9 := LE9.out; have l10 := LE10.out; have l11 := LE11.out; have l12 := LE12.out; have l13 := LE13.out; omega)
  have HV_16 : Hid (Below w4.heap.size w4 w16) := HV_15.out.grown hg HV_15.out.size (fun k e => by obtain rfl := Option.some.inj e; have l0 := LE0.out; have l1 := LE1.out; have l2 := LE2.out; have l3 := LE3.out; have l4 := LE4.out; have l5 := LE5.out; have l6 := LE6.out; have l7 := LE7.out; have l8 := LE8.out; have l9 := LE9.out; have l10 := LE10.out; have l11 := LE11.out; have l12 := LE12.out; have l13 := LE13.out; omega)
  have X1_16 : Hid (Rs w16 w5.heap.size 80 vcells l) := gk_blk X1_15.out hg (fun e => by have e2 := Option.some.inj e; dsimp only at e2; have l0 := LE0.out; have l1 := LE1.out; have l2 := LE2.out; have l3 := LE3.out; have l4 := LE4.out; have l5 := LE5.out; have l6 := LE6.out; have l7 := LE7.out; have l8 := LE8.out; have l9 := LE9.out; have l10 := LE10.out; have l11 := LE11.out; have l12 := LE12.out; have l13 := LE13.out; omega)
  have X2_16 : Hid (Rs w16 w6.heap.size 5 ycells s) := gk_blk X2_15.out hg (fun e => by have e2 := Option.some.inj e; dsimp only at e2; have l0 := LE0.out; have l1 := LE1.out; have l2 := LE2.out; have l3 := LE3.out; have l4 := LE4.out; have l5 := LE5.out; have l6 := LE6.out; have l7 := LE7.out; have l8 := LE8.out; have l9 := LE9.out; have l10 := LE10.out; have l11 := LE11.out; have l12 := LE12.out; have l13 := LE13.out; omega)
  have G0_16 : Hid (w16.ownsRow w7.heap.size 83 2 (.slice Ag0 (mwL r l d s).length cg0) (mwL r l d s).length ((mwL r l d s).flatMap p2cells)) := gk_own G0_15.out hg (fun k e => by obtain rfl := Option.some.inj e; dsimp only; have l0 := LE0.out; have l1 := LE1.out; have l2 := LE2.out; have l3 := LE3.out; have l4 := LE4.out; have l5 := LE5.out; have l6 := LE6.out; have l7 := LE7.out; have l8 := LE8.out; have l9 := LE9.out; have l10 := LE10.out; have l11 := LE11.out; have l12 := LE12.out; have l13 := LE13.out; omega)
  clear hg HB_15 HV_15 X1_15 X2_15 G0_15
  have SR := gk_rs vcells_length X1_16.out
  clear X1_16
  go_wp2_with fail
  refine (mkV_any l.length _ _ (1 + (r.length : Int)) _ (by omega) (by omega) SR).mono ?_
  rintro e w17 ⟨rfl, -, hg, -⟩
  clear SR
  have HB_17 : Hid (Below w.heap.size w w17) := HB_16.out.grown hg HB_16.out.size (fun k e => by obtain rfl := Option.some.inj e; have l0 := LE0.out; have l1 := LE1.out; have l2 := LE2.out; have l3 := LE3.out; have l4 := LE4.out; have l5 := LE5.out; have l6 := LE6.out; have l7 := LE7.out; have l8 := LE8.out; have l9 := LE9.out; have l10 := LE10.out; have l11 := LE11.out; have l12 := LE12.out; have l13 := LE13.out; omega)
  have HV_17 : Hid (Below w4.heap.size w4 w17) := HV_16.out.grown hg HV_16.out.size (fun k e => by obtain rfl := Option.some.inj e; have l0 := LE0.out; have l1 := LE1.out; have l2 := LE2.out; have l3 := LE3.out; have l4 := LE4.out; have l5 := LE5.out; have l6 := LE6.out; have l7 := LE7.out; have l8 := LE8.out; have l9 := LE9.out; have l10 := LE10.out; have l11 := LE11.out; have l12 := LE12.out; have l13 := LE13.out; omega)
  have X2_17 : Hid (Rs w17 w6.heap.size 5 ycells s) := gk_blk X2_16.out hg (fun e => by have e2 := Option.some.inj e; dsimp only at e2; have l0 := LE0.out; have l1 := LE1.out; have l2 := LE2.out; have l3 := LE3.out; have l4 := LE4.out; have l5 := LE5.out; have l6 := LE6.out; have l7 := LE7.out; have l8 := LE8.out; have l9 := LE9.out; have l10 := LE10.out; have l11 := LE11.out; have l12 := LE12.out; have l13 := LE13.out; omega)
  have G0_17 : Hid (w17.ownsRow w7.heap.size 83 2 (.slice Ag0 (mwL r l d s).length cg0) (mwL r l d s).length ((mwL r l d s).flatMap p2cells)) := gk_own G0_16.out hg (fun k e => by obtain rfl := Option.some.inj e; dsimp only; have l0 := LE0.out; have l1 := LE1.out; have l2 := LE2.out; have l3 := LE3.out; have l4 := LE4.out; have l5 := LE5.out; have l6 := LE6.out; have l7 := LE7.out; have l8 := LE8.out; have l9 := LE9.out; have l10 := LE10.out; have l11 := LE11.out; have l12 := LE12.out; have l13 := LE13.out; omega)
  clear hg HB_16 HV_16 X2_16 G0_16
  have SR := gk_rs ycells_length X2_17.out
  clear X2_17
  go_wp2_with fail
  refine (mkY_any s.length _ _ (1 + (r.length : Int) + 6 * (l.length : Int)) _ (by omega) (by omega) SR).mono ?_
  rintro e w18 ⟨rfl, -, hg, -⟩
  clear SR
  have HB_18 : Hid (Below w.heap.size w w18) := HB_17.out.grown hg HB_17.out.size (fun k e => by obtain rfl := Option.some.inj e; have l0 := LE0.out; have l1 := LE1.out; have l2 := LE2.out; have l3 := LE3.out; have l4 := LE4.out; have l5 := LE5.out; have l6 := LE6.out; have l7 := LE7.out; have l8 := LE8.out; have l9 := LE9.out; have l10 := LE10.out; have l11 := LE11.out; have l12 := LE12.out; have l13 := LE13.out; omega)
  have HV_18 : Hid (Below w4.heap.size w4 w18) := HV_17.out.grown hg HV_17.out.size (fun k e => by obtain rfl := Option.some.inj e; have l0 := LE0.out; have l1 := LE1.out; have l2 := LE2.out; have l3 := LE3.out; have l4 := LE4.out; have l5 := LE5.out; have l6 := LE6.out; have l7 := LE7.out; have l8 := LE8.out; have l9 := LE9.out; have l10 := LE10.out; have l11 := LE11.out; have l12 := LE12.out; have l13 := LE13.out; omega)
  have G0_18 : Hid (w18.ownsRow w7.heap.size 83 2 (.slice Ag0 (mwL r l d s).length cg0) (mwL r l d s).length ((mwL r l d s).flatMap p2cells)) := gk_own G0_17.out hg (fun k e => by obtain rfl := Option.some.inj e; dsimp only; have l0 := LE0.out; have l1 := LE1.out; have l2 := LE2.out; have l3 := LE3.out; have l4 := LE4.out; have l5 := LE5.out; have l6 := LE6.out; have l7 := LE7.out; have l8 := LE8.out; have l9 := LE9.out; have l10 := LE10.out; have l11 := LE11.out; have l12 := LE12.out; have l13 := LE13.out; omega)
  clear hg HB_17 HV_17 G0_17
  have hkn : ¬ (1 + (r.length : Int) + 6 * (l.length : Int) + (s.length : Int) < 0) := by omega
  go_wp2_with fail
  refine (eqInt64A2S_same (mwL r l d s) _ _ _ _ _ (by omega) (own_rd2 p2cells_length G0_18.out) (RV0.out.keep HV_18.out)).mono ?_
  rintro e w19 ⟨rfl, hb⟩
  have HB_19 : Hid (Below w.heap.size w w19) := HB_18.out.trans (hb.mono HB_18.out.size)
  have HV_19 : Hid (Below w4.heap.size w4 w19) := HV_18.out.trans (hb.mono HV_18.out.size)
  have G0_19 : Hid (w19.ownsRow w7.heap.size 83 2 (.slice Ag0 (mwL r l d s).length cg0) (mwL r l d s).length ((mwL r l d s).flatMap p2cells)) := own_keep' G0_18.out hb
  clear hb HB_18 HV_18 G0_18
  have hgn0 : (0 : Int) ≤ ((mwL r l d s).length : Int) := Int.natCast_nonneg _
  have SR := gk_src G0_19.out
  have GE := gk_ge G0_19.out
  clear G0_19
  go_wp2_with fail
  refine (mkA2_any (mwL r l d s).length Ag0 _ (1) _ (by omega) (by omega) SR).mono ?_
  rintro e w20 ⟨rfl, hM, hg, -⟩
  clear SR
  have HB_20 : Hid (Below w.heap.size w w20) := HB_19.out.grown hg HB_19.out.size (fun k e => by have lk := GE k e; have l0 := LE0.out; have l1 := LE1.out; have l2 := LE2.out; have l3 := LE3.out; have l4 := LE4.out; have l5 := LE5.out; have l6 := LE6.out; have l7 := LE7.out; have l8 := LE8.out; have l9 := LE9.out; have l10 := LE10.out; have l11 := LE11.out; have l12 := LE12.out; have l13 := LE13.out; omega)
  have HV_20 : Hid (Below w4.heap.size w4 w20) := HV_19.out.grown hg HV_19.out.size (fun k e => by have lk := GE k e; have l0 := LE0.out; have l1 := LE1.out; have l2 := LE2.out; have l3 := LE3.out; have l4 := LE4.out; have l5 := LE5.out; have l6 := LE6.out; have l7 := LE7.out; have l8 := LE8.out; have l9 := LE9.out; have l10 := LE10.out; have l11 := LE11.out; have l12 := LE12.out; have l13 := LE13.out; omega)
  clear hg HB_19 HV_19
  clear GE
  have M0_20 : Hid (MkdA2 w20 Ag0 (mwL r l d s).length (1)) := hM
  clear hM
  have hmn : ¬ (1 + 2 * (((mwL r l d s).length : Nat) : Int) < 0) := by omega
  go_wp2_with fail
  refine (hdA2_any (mwL r l d s).length Ag0 _ (1) _ (by omega) (by omega) M0_20.out).mono ?_
  rintro e w' ⟨rfl, rfl⟩
  go_wp2_with fail
  refine (toRow_any r A c _ hm0 (HR0.out.keep HB_20.out)).mono ?_
  rintro e w21 ⟨rfl, hR, hb⟩
  have HB_21 : Hid (Below w.heap.size w w21) := HB_20.out.trans (hb.mono HB_20.out.size)
  have HV_21 : Hid (Below w4.heap.size w4 w21) := HV_20.out.trans (hb.mono HV_20.out.size)
  have M0_21 : Hid (MkdA2 w21 Ag0 (mwL r l d s).length (1)) := M0_20.out.below hb
  clear hb HB_20 HV_20 M0_20
  have T0_21 : Hid (Rs w21 w20.heap.size 5 ycells r) := hR
  clear hR
  go_wp2_with fail
  refine (toWalkerS_any l B d2 _ hm1 (HR1.out.keep HB_21.out)).mono ?_
  rintro e w22 ⟨rfl, hR, hb⟩
  have HB_22 : Hid (Below w.heap.size w w22) := HB_21.out.trans (hb.mono HB_21.out.size)
  have HV_22 : Hid (Below w4.heap.size w4 w22) := HV_21.out.trans (hb.mono HV_21.out.size)
  have T0_22 : Hid (Rs w22 w20.heap.size 5 ycells r) := Blk.keep T0_21.out hb
  have M0_22 : Hid (MkdA2 w22 Ag0 (mwL r l d s).length (1)) := M0_21.out.below hb
  clear hb HB_21 HV_21 T0_21 M0_21
  have T1_22 : Hid (Rs w22 w21.heap.size 80 vcells l) := hR
  clear hR
  go_wp2_with fail
  refine (toRow_any s As cs _ hm2 (HR2.out.keep HB_22.out)).mono ?_
  rintro e w23 ⟨rfl, hR, hb⟩
  have HB_23 : Hid (Below w.heap.size w w23) := HB_22.out.trans (hb.mono HB_22.out.size)
  have HV_23 : Hid (Below w4.heap.size w4 w23) := HV_22.out.trans (hb.mono HV_22.out.size)
  have T0_23 : Hid (Rs w23 w20.heap.size 5 ycells r) := Blk.keep T0_22.out hb
  have T1_23 : Hid (Rs w23 w21.heap.size 80 vcells l) := Blk.keep T1_22.out hb
  have M0_23 : Hid (MkdA2 w23 Ag0 (mwL r l d s).length (1)) := M0_22.out.below hb
  clear hb HB_22 HV_22 T0_22 T1_22 M0_22
  have T2_23 : Hid (Rs w23 w22.heap.size 5 ycells s) := hR
  clear hR
  go_wp2_with fail
  refine (implMissed_any r HW0.out l HW1.out d s _ _ _ _ _ _ ad _ hm0 hm1 hm2 (T0_23.out.rd T0_23.out.lt) (T1_23.out.rd T1_23.out.lt) (T2_23.out.rd T2_23.out.lt) (HE.out.below HB_23.out (Nat.le_refl _))).mono ?_
  rintro e w24 ⟨h0, rfl, hO0, hb⟩
  clear T0_23
  clear T1_23
  clear T2_23
  have HB_24 : Hid (Below w.heap.size w w24) := HB_23.out.trans (hb.mono HB_23.out.size)
  have HV_24 : Hid (Below w4.heap.size w4 w24) := HV_23.out.trans (hb.mono HV_23.out.size)
  have M0_24 : Hid (MkdA2 w24 Ag0 (mwL r l d s).length (1)) := M0_23.out.below hb
  clear hb HB_23 HV_23 M0_23
  rw [HCD0.out]
  obtain ⟨Ah0, ch0, rfl, -, -⟩ := own_rd p2cells_length hO0
  have H0_24 := Lib.hid hO0
  clear hO0
  go_wp2_with fail
  refine (eqInt64A2S_same (mwL r l d s) _ _ _ _ _ (by omega) (own_rd2 p2cells_length H0_24.out) (RV0.out.keep HV_24.out)).mono ?_
  rintro e w25 ⟨rfl, hb⟩
  have HB_25 : Hid (Below w.heap.size w w25) := HB_24.out.trans (hb.mono HB_24.out.size)
  have HV_25 : Hid (Below w4.heap.size w4 w25) := HV_24.out.trans (hb.mono HV_24.out.size)
  have H0_25 : Hid (w25.ownsRow w23.heap.size 83 2 (.slice Ah0 (mwL r l d s).length ch0) (mwL r l d s).length ((mwL r l d s).flatMap p2cells)) := own_keep' H0_24.out hb
  have M0_25 : Hid (MkdA2 w25 Ag0 (mwL r l d s).length (1)) := M0_24.out.below hb
  clear hb HB_24 HV_24 H0_24 M0_24
  go_wp2_with fail
  refine (hdA2_any (mwL r l d s).length Ag0 _ (1) _ (by omega) (by omega) M0_25.out).mono ?_
  rintro e w' ⟨rfl, rfl⟩
  go_wp2
  go_ret
  exact ⟨rfl, HB_25.out⟩
end Go.Proofs.YtlfamfdgphhbcabDoor
