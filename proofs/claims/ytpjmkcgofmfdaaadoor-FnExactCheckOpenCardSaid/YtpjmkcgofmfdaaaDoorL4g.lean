/-
  FnExactCheckOpen: for all arguments the law returns true, and they read as before. No condition but that the sentinel errors hold what the program's text lays (tied).
-/
import Derived.Test.YtpjmkcgofmfdaaaDoorCards
import Derived.Test.YtpjmkcgofmfdaaaDoorTie
import Derived.Test.YtpjmkcgofmfdaaaDoorG
import Derived.Test.YtpjmkcgofmfdaaaDoorLr
import Derived.Test.YtpjmkcgofmfdaaaDoorGk
import Derived.SevenTiedAt
namespace Go.Proofs.YtpjmkcgofmfdaaaDoor
open Go.ChangeShapes Go.WideShapes Go.ChangeAt Go.RowKit Go.Deep
theorem Tryd.cellsI : Tryd.prog.cellsOf 2 = 1 := by kernel_rfl

set_option maxRecDepth 100000 in
set_option maxHeartbeats 4000000 in
theorem ckLaw_any (xs : List Crt) (ord : List Wnt) (cr : List Int) (A : Option Addr) (c : Nat) (B : Option Addr) (d : Nat) (D : Option Addr) (f : Nat) (ad : Nat → Addr) (w : World) (hl0 : xs.length ≤ 9223372036854775807) (hr0 : Rd w w.heap.size kcells A xs) (hl1 : ord.length ≤ 9223372036854775807) (hr1 : Rd w w.heap.size wcells B ord) (hw1 : ∀ x ∈ ord, wfW x) (hl2 : cr.length ≤ 9223372036854775807) (hr2 : Rd w w.heap.size icells D cr) (hw2 : ∀ x ∈ cr, wfI x) (hE : EW 7 w ad) :
    Calls Tryd.prog 7 #[.slice A xs.length c, .slice B ord.length d, .slice D cr.length f] w (Good w) := by
  have HR0 := Lib.hid hr0
  have HR1 := Lib.hid hr1
  have HW1 := Lib.hid hw1
  have HR2 := Lib.hid hr2
  have HW2 := Lib.hid hw2
  have HE := Lib.hid hE
  clear hE hr0 hr1 hw1 hr2 hw2
  go_enter Tryd.func7, Tryd.ntmps7
  by_cases hq2 : (1048576 : Int) < cr.length
  · go_wp2
    go_ret
    exact ⟨rfl, Below.refl _ _⟩
  have hm2 : cr.length ≤ 1048576 := by omega
  go_wp2_with fail
  refine (szCrateS_any A xs.length c (1048576) hl0 ⟨by omega, by omega⟩ _).mono ?_
  rintro e w' ⟨rfl, rfl⟩
  by_cases hn0 : (1048576 : Int) < xs.length
  · rw [if_pos hn0]
    go_wp2
    go_ret
    exact ⟨rfl, Below.refl _ _⟩
  rw [if_neg hn0]
  have hz0 : (0 : Int) ≤ 1048576 - xs.length := by omega
  have hm0 : xs.length ≤ 1048576 := by omega
  go_wp2_with fail
  refine (szWantS_any B ord.length d (1048576 - xs.length) hl1 ⟨by omega, by omega⟩ _).mono ?_
  rintro e w' ⟨rfl, rfl⟩
  by_cases hn1 : (1048576 - xs.length : Int) < ord.length
  · rw [if_pos hn1]
    go_wp2
    go_ret
    exact ⟨rfl, Below.refl _ _⟩
  rw [if_neg hn1]
  have hz1 : (0 : Int) ≤ 1048576 - xs.length - ord.length := by omega
  have hm1 : ord.length ≤ 1048576 := by omega
  have HB_0 : Hid (Below w.heap.size w w) := Below.refl _ _
  go_wp2_with fail
  refine (toCrateS_any xs A c _ hm0 (HR0.out.keep HB_0.out)).mono ?_
  rintro e w1 ⟨rfl, hR, hb⟩
  have HB_1 : Hid (Below w.heap.size w w1) := HB_0.out.trans (hb.mono HB_0.out.size)
  clear hb HB_0
  have Y0_1 : Hid (Rs w1 w.heap.size 47 kcells xs) := hR
  clear hR
  go_wp2_with fail
  refine (toWantS_any ord B d _ hm1 (HR1.out.keep HB_1.out)).mono ?_
  rintro e w2 ⟨rfl, hR, hb⟩
  have HB_2 : Hid (Below w.heap.size w w2) := HB_1.out.trans (hb.mono HB_1.out.size)
  have Y0_2 : Hid (Rs w2 w.heap.size 47 kcells xs) := Blk.keep Y0_1.out hb
  clear hb HB_1 Y0_1
  have Y1_2 : Hid (Rs w2 w1.heap.size 61 wcells ord) := hR
  clear hR
  go_wp2_with fail
  refine (toInt64S_any cr D f _ hm2 (HR2.out.keep HB_2.out)).mono ?_
  rintro e w3 ⟨rfl, hR, hb⟩
  have HB_3 : Hid (Below w.heap.size w w3) := HB_2.out.trans (hb.mono HB_2.out.size)
  have Y0_3 : Hid (Rs w3 w.heap.size 47 kcells xs) := Blk.keep Y0_2.out hb
  have Y1_3 : Hid (Rs w3 w1.heap.size 61 wcells ord) := Blk.keep Y1_2.out hb
  clear hb HB_2 Y0_2 Y1_2
  have Y2_3 : Hid (Rs w3 w2.heap.size 2 icells cr) := hR
  clear hR
  go_wp2_with fail
  refine (specCheckOpen_any xs ord cr HW1.out _ _ _ _ _ _ _ hm0 hm1 hm2 (Nat.le_refl _) (Y0_3.out.rd Y0_3.out.lt) (Y1_3.out.rd Y1_3.out.lt) (Y2_3.out.rd Y2_3.out.lt)).mono ?_
  rintro e w4 ⟨rfl, hb⟩
  clear Y0_3
  clear Y1_3
  clear Y2_3
  have HB_4 : Hid (Below w.heap.size w w4) := HB_3.out.trans (hb.mono HB_3.out.size)
  clear hb HB_3
  obtain ⟨cd0, hcd0⟩ : ∃ c, coB xs ord cr = c := ⟨_, rfl⟩
  have HCD0 := Lib.hid hcd0
  clear hcd0
  rw [HCD0.out]
  obtain ⟨cd1, hcd1⟩ : ∃ c, opC xs ord cr = c := ⟨_, rfl⟩
  have HCD1 := Lib.hid hcd1
  clear hcd1
  rw [HCD1.out]
  go_wp2_with fail
  refine (toCrateS_any xs A c _ hm0 (HR0.out.keep HB_4.out)).mono ?_
  rintro e w5 ⟨rfl, hR, hb⟩
  have LE0 : Hid (w.heap.size ≤ w4.heap.size) := HB_4.out.size
  have HB_5 : Hid (Below w.heap.size w w5) := HB_4.out.trans (hb.mono HB_4.out.size)
  clear hb HB_4
  have X0_5 : Hid (Rs w5 w4.heap.size 47 kcells xs) := hR
  clear hR
  go_wp2_with fail
  refine (toWantS_any ord B d _ hm1 (HR1.out.keep HB_5.out)).mono ?_
  rintro e w6 ⟨rfl, hR, hb⟩
  have LE1 : Hid (w.heap.size ≤ w5.heap.size) := HB_5.out.size
  have LE2 : Hid (w4.heap.size < w5.heap.size) := X0_5.out.lt
  have HB_6 : Hid (Below w.heap.size w w6) := HB_5.out.trans (hb.mono HB_5.out.size)
  have X0_6 : Hid (Rs w6 w4.heap.size 47 kcells xs) := Blk.keep X0_5.out hb
  clear hb HB_5 X0_5
  have X1_6 : Hid (Rs w6 w5.heap.size 61 wcells ord) := hR
  clear hR
  go_wp2_with fail
  refine (toInt64S_any cr D f _ hm2 (HR2.out.keep HB_6.out)).mono ?_
  rintro e w7 ⟨rfl, hR, hb⟩
  have LE3 : Hid (w.heap.size ≤ w6.heap.size) := HB_6.out.size
  have LE4 : Hid (w4.heap.size < w6.heap.size) := X0_6.out.lt
  have LE5 : Hid (w5.heap.size < w6.heap.size) := X1_6.out.lt
  have HB_7 : Hid (Below w.heap.size w w7) := HB_6.out.trans (hb.mono HB_6.out.size)
  have X0_7 : Hid (Rs w7 w4.heap.size 47 kcells xs) := Blk.keep X0_6.out hb
  have X1_7 : Hid (Rs w7 w5.heap.size 61 wcells ord) := Blk.keep X1_6.out hb
  clear hb HB_6 X0_6 X1_6
  have X2_7 : Hid (Rs w7 w6.heap.size 2 icells cr) := hR
  clear hR
  go_wp2_with fail
  refine (implCheckOpen_any xs ord cr HW1.out _ _ _ _ _ _ ad _ hm0 hm1 hm2 (X0_7.out.rd X0_7.out.lt) (X1_7.out.rd X1_7.out.lt) (X2_7.out.rd X2_7.out.lt) HW2.out (HE.out.below HB_7.out (Nat.le_refl _))).mono ?_
  rintro e w8 ⟨rfl, hb⟩
  have HB_8 : Hid (Below w.heap.size w w8) := HB_7.out.trans (hb.mono HB_7.out.size)
  have X0_8 : Hid (Rs w8 w4.heap.size 47 kcells xs) := Blk.keep X0_7.out hb
  have X1_8 : Hid (Rs w8 w5.heap.size 61 wcells ord) := Blk.keep X1_7.out hb
  have X2_8 : Hid (Rs w8 w6.heap.size 2 icells cr) := Blk.keep X2_7.out hb
  clear hb HB_7 X0_7 X1_7 X2_7
  rw [HCD0.out]
  rw [HCD1.out]
  cases cd0
  all_goals
    go_wp2_with fail
    refine (toCrateS_any xs A c _ hm0 (HR0.out.keep HB_8.out)).mono ?_
    rintro e w9 ⟨rfl, hR, hb⟩
    have HB_9 : Hid (Below w.heap.size w w9) := HB_8.out.trans (hb.mono HB_8.out.size)
    have X0_9 : Hid (Rs w9 w4.heap.size 47 kcells xs) := Blk.keep X0_8.out hb
    have X1_9 : Hid (Rs w9 w5.heap.size 61 wcells ord) := Blk.keep X1_8.out hb
    have X2_9 : Hid (Rs w9 w6.heap.size 2 icells cr) := Blk.keep X2_8.out hb
    clear hb HB_8 X0_8 X1_8 X2_8
    have Z0_9 : Hid (Rs w9 w8.heap.size 47 kcells xs) := hR
    clear hR
    go_wp2_with fail
    refine (eqCrateS_same xs _ _ _ _ _ (by omega) (X0_9.out.rd X0_9.out.lt) (Z0_9.out.rd Z0_9.out.lt)).mono ?_
    rintro e w10 ⟨rfl, hb⟩
    clear Z0_9
    have HB_10 : Hid (Below w.heap.size w w10) := HB_9.out.trans (hb.mono HB_9.out.size)
    have X0_10 : Hid (Rs w10 w4.heap.size 47 kcells xs) := Blk.keep X0_9.out hb
    have X1_10 : Hid (Rs w10 w5.heap.size 61 wcells ord) := Blk.keep X1_9.out hb
    have X2_10 : Hid (Rs w10 w6.heap.size 2 icells cr) := Blk.keep X2_9.out hb
    clear hb HB_9 X0_9 X1_9 X2_9
    go_wp2_with fail
    refine (toWantS_any ord B d _ hm1 (HR1.out.keep HB_10.out)).mono ?_
    rintro e w11 ⟨rfl, hR, hb⟩
    have HB_11 : Hid (Below w.heap.size w w11) := HB_10.out.trans (hb.mono HB_10.out.size)
    have X0_11 : Hid (Rs w11 w4.heap.size 47 kcells xs) := Blk.keep X0_10.out hb
    have X1_11 : Hid (Rs w11 w5.heap.size 61 wcells ord) := Blk.keep X1_10.out hb
    have X2_11 : Hid (Rs w11 w6.heap.size 2 icells cr) := Blk.keep X2_10.out hb
    clear hb HB_10 X0_10 X1_10 X2_10
    have Z1_11 : Hid (Rs w11 w10.heap.size 61 wcells ord) := hR
    clear hR
    go_wp2_with fail
    refine (eqWantS_same ord _ _ _ _ _ (by omega) (X1_11.out.rd X1_11.out.lt) (Z1_11.out.rd Z1_11.out.lt)).mono ?_
    rintro e w12 ⟨rfl, hb⟩
    clear Z1_11
    have HB_12 : Hid (Below w.heap.size w w12) := HB_11.out.trans (hb.mono HB_11.out.size)
    have X0_12 : Hid (Rs w12 w4.heap.size 47 kcells xs) := Blk.keep X0_11.out hb
    have X1_12 : Hid (Rs w12 w5.heap.size 61 wcells ord) := Blk.keep X1_11.out hb
    have X2_12 : Hid (Rs w12 w6.heap.size 2 icells cr) := Blk.keep X2_11.out hb
    clear hb HB_11 X0_11 X1_11 X2_11
    go_wp2_with fail
    refine (toInt64S_any cr D f _ hm2 (HR2.out.keep HB_12.out)).mono ?_
    rintro e w13 ⟨rfl, hR, hb⟩
    have HB_13 : Hid (Below w.heap.size w w13) := HB_12.out.trans (hb.mono HB_12.out.size)
    have X0_13 : Hid (Rs w13 w4.heap.size 47 kcells xs) := Blk.keep X0_12.out hb
    have X1_13 : Hid (Rs w13 w5.heap.size 61 wcells ord) := Blk.keep X1_12.out hb
    have X2_13 : Hid (Rs w13 w6.heap.size 2 icells cr) := Blk.keep X2_12.out hb
    clear hb HB_12 X0_12 X1_12 X2_12
    have Z2_13 : Hid (Rs w13 w12.heap.size 2 icells cr) := hR
    clear hR
    go_wp2_with fail
    refine (eqInt64S_same cr _ _ _ _ _ (by omega) (X2_13.out.rd X2_13.out.lt) (Z2_13.out.rd Z2_13.out.lt)).mono ?_
    rintro e w14 ⟨rfl, hb⟩
    clear Z2_13
    have HB_14 : Hid (Below w.heap.size w w14) := HB_13.out.trans (hb.mono HB_13.out.size)
    have X0_14 : Hid (Rs w14 w4.heap.size 47 kcells xs) := Blk.keep X0_13.out hb
    have X1_14 : Hid (Rs w14 w5.heap.size 61 wcells ord) := Blk.keep X1_13.out hb
    have X2_14 : Hid (Rs w14 w6.heap.size 2 icells cr) := Blk.keep X2_13.out hb
    clear hb HB_13 X0_13 X1_13 X2_13
    go_wp2
    go_ret
    exact ⟨rfl, HB_14.out⟩
end Go.Proofs.YtpjmkcgofmfdaaaDoor
