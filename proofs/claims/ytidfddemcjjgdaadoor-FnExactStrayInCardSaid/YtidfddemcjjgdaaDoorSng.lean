/-
  FnExactStrayIn: for every list of crates and of labels the law returns true, and its arguments read as before. No condition but that the sentinel errors hold what the program's text lays (tied).
-/
import Derived.Test.YtidfddemcjjgdaaDoorCards
import Derived.Test.YtidfddemcjjgdaaDoorTie
import Derived.Test.YtidfddemcjjgdaaDoorG
import Derived.Test.YtidfddemcjjgdaaDoorSk
import Derived.SevenTiedAt
namespace Go.Proofs.YtidfddemcjjgdaaDoor
open Go.ChangeShapes Go.WideShapes Go.ChangeAt Go.RowKit Go.Deep

set_option maxRecDepth 100000 in
set_option maxHeartbeats 4000000 in
theorem siLaw_any (xs : List Crt) (ls : List Bot) (hls : ∀ l ∈ ls, wfB l) (A A2 : Option Addr) (c c2 : Nat) (ad : Nat → Addr) (w : World) (hl : xs.length ≤ 9223372036854775807) (hl' : ls.length ≤ 9223372036854775807) (hr : Rd w w.heap.size kcells A xs) (hr2 : Rd w w.heap.size bcells A2 ls) (hE : EW 7 w ad) :
    Calls Tryd.prog 10 #[.slice A xs.length c, .slice A2 ls.length c2] w (Good w) := by
  have HR := Lib.hid hr
  have HR2 := Lib.hid hr2
  have HW := Lib.hid hls
  have HE := Lib.hid hE
  clear hr hr2 hls hE
  go_enter Tryd.func10, Tryd.ntmps10
  go_wp2_with fail
  refine (szCrateS_any A xs.length c 1048576 hl ⟨by omega, by omega⟩ _).mono ?_
  rintro e w' ⟨rfl, rfl⟩
  by_cases hn : (1048576 : Int) < xs.length
  · rw [if_pos hn]
    go_wp2
    go_ret
    exact ⟨rfl, Below.refl _ _⟩
  rw [if_neg hn]
  have hn0 : (0 : Int) ≤ 1048576 - xs.length := by omega
  have hl2 : xs.length ≤ 1048576 := by omega
  go_wp2_with fail
  refine (szBottleS_any A2 ls.length c2 (1048576 - xs.length) hl' ⟨by omega, by omega⟩ _).mono ?_
  rintro e w' ⟨rfl, rfl⟩
  by_cases hn' : (1048576 - xs.length : Int) < ls.length
  · rw [if_pos hn']
    go_wp2
    go_ret
    exact ⟨rfl, Below.refl _ _⟩
  rw [if_neg hn']
  have hn2 : (0 : Int) ≤ 1048576 - xs.length - ls.length := by omega
  have hl3 : ls.length ≤ 1048576 := by omega
  have HB0 := Lib.hid (Below.refl w.heap.size w)
  go_wp2_with fail
  refine (toCrateS_any xs A c _ hl2 (HR.out.keep HB0.out)).mono ?_
  rintro e w1 ⟨rfl, hR, hb⟩
  have HB1 : Hid (Below w.heap.size w w1) := HB0.out.trans (hb.mono HB0.out.size)
  clear hb
  clear HB0
  have HP1 := Lib.hid hR
  clear hR
  go_wp2_with fail
  refine (toBottleS_any ls A2 c2 _ hl3 (HR2.out.keep HB1.out)).mono ?_
  rintro e w2 ⟨rfl, hR, hb⟩
  have HB2 : Hid (Below w.heap.size w w2) := HB1.out.trans (hb.mono HB1.out.size)
  have HP2 : Hid (Rs w2 w.heap.size 31 kcells xs) := Blk.keep HP1.out hb
  clear hb
  clear HB1
  clear HP1
  have HQ2 := Lib.hid hR
  clear hR
  go_wp2_with fail
  refine (specStray_any xs ls HW.out _ _ _ _ _ hl2 hl3 (HP2.out.rd HP2.out.lt) (HQ2.out.rd HQ2.out.lt)).mono ?_
  rintro e w3 ⟨rfl, hb⟩
  have HB3 : Hid (Below w.heap.size w w3) := HB2.out.trans (hb.mono HB2.out.size)
  clear hb
  clear HB2
  clear HP2
  clear HQ2
  obtain ⟨sn, hsn⟩ : ∃ n, siN xs ls = n := ⟨_, rfl⟩
  obtain ⟨sc, hsc⟩ : ∃ n, siC xs ls = n := ⟨_, rfl⟩
  have hV : siV xs ls = .tuple #[.int .i64 sn, .int .i64 sc] := by rw [siV, hsn, hsc]
  have HV := Lib.hid hV
  rw [hV]
  clear hV hsn hsc
  go_wp2_with fail
  refine (toCrateS_any xs A c _ hl2 (HR.out.keep HB3.out)).mono ?_
  rintro e w4 ⟨rfl, hR, hb⟩
  have HB4 : Hid (Below w.heap.size w w4) := HB3.out.trans (hb.mono HB3.out.size)
  clear hb
  clear HB3
  have HS4 := Lib.hid hR
  clear hR
  go_wp2_with fail
  refine (toBottleS_any ls A2 c2 _ hl3 (HR2.out.keep HB4.out)).mono ?_
  rintro e w5 ⟨rfl, hR, hb⟩
  have HB5 : Hid (Below w.heap.size w w5) := HB4.out.trans (hb.mono HB4.out.size)
  have HS5 : Hid (Rs w5 w3.heap.size 31 kcells xs) := Blk.keep HS4.out hb
  clear hb
  clear HB4
  clear HS4
  have HT5 := Lib.hid hR
  clear hR
  go_wp2_with fail
  refine (implStray_any xs ls HW.out _ _ _ _ ad _ hl2 hl3 (HS5.out.rd HS5.out.lt) (HT5.out.rd HT5.out.lt) (HE.out.below HB5.out (Nat.le_refl _))).mono ?_
  rintro e w6 ⟨rfl, hb⟩
  have HB6 : Hid (Below w.heap.size w w6) := HB5.out.trans (hb.mono HB5.out.size)
  have HS6 : Hid (Rs w6 w3.heap.size 31 kcells xs) := Blk.keep HS5.out hb
  have HT6 : Hid (Rs w6 w4.heap.size 29 bcells ls) := Blk.keep HT5.out hb
  clear hb
  clear HB5
  clear HS5
  clear HT5
  rw [HV.out]
  go_wp2_with fail
  refine (toCrateS_any xs A c _ hl2 (HR.out.keep HB6.out)).mono ?_
  rintro e w7 ⟨rfl, hR, hb⟩
  have HB7 : Hid (Below w.heap.size w w7) := HB6.out.trans (hb.mono HB6.out.size)
  have HS7 : Hid (Rs w7 w3.heap.size 31 kcells xs) := Blk.keep HS6.out hb
  have HT7 : Hid (Rs w7 w4.heap.size 29 bcells ls) := Blk.keep HT6.out hb
  clear hb
  clear HB6
  clear HS6
  clear HT6
  have HU7 := Lib.hid hR
  clear hR
  go_wp2_with fail
  refine (eqCrateS_same xs _ _ _ _ _ (by omega) (HS7.out.rd HS7.out.lt) (HU7.out.rd HU7.out.lt)).mono ?_
  rintro e w8 ⟨rfl, hb⟩
  have HB8 : Hid (Below w.heap.size w w8) := HB7.out.trans (hb.mono HB7.out.size)
  have HS8 : Hid (Rs w8 w3.heap.size 31 kcells xs) := Blk.keep HS7.out hb
  have HT8 : Hid (Rs w8 w4.heap.size 29 bcells ls) := Blk.keep HT7.out hb
  clear hb
  clear HB7
  clear HS7
  clear HT7
  clear HU7
  go_wp2_with fail
  refine (toBottleS_any ls A2 c2 _ hl3 (HR2.out.keep HB8.out)).mono ?_
  rintro e w9 ⟨rfl, hR, hb⟩
  have HB9 : Hid (Below w.heap.size w w9) := HB8.out.trans (hb.mono HB8.out.size)
  have HS9 : Hid (Rs w9 w3.heap.size 31 kcells xs) := Blk.keep HS8.out hb
  have HT9 : Hid (Rs w9 w4.heap.size 29 bcells ls) := Blk.keep HT8.out hb
  clear hb
  clear HB8
  clear HS8
  clear HT8
  have HX9 := Lib.hid hR
  clear hR
  go_wp2_with fail
  refine (eqBots_same ls _ _ _ _ _ (by omega) (HT9.out.rd HT9.out.lt) (HX9.out.rd HX9.out.lt)).mono ?_
  rintro e w10 ⟨rfl, hb⟩
  have HB10 : Hid (Below w.heap.size w w10) := HB9.out.trans (hb.mono HB9.out.size)
  have HS10 : Hid (Rs w10 w3.heap.size 31 kcells xs) := Blk.keep HS9.out hb
  have HT10 : Hid (Rs w10 w4.heap.size 29 bcells ls) := Blk.keep HT9.out hb
  have HX10 : Hid (Rs w10 w8.heap.size 29 bcells ls) := Blk.keep HX9.out hb
  clear hb
  clear HB9
  clear HS9
  clear HT9
  clear HX9
  go_wp2
  go_ret
  exact ⟨rfl, HB10.out⟩
end Go.Proofs.YtidfddemcjjgdaaDoor
