/-
  FnExactFirstUnfair: for all arguments the law returns true, and they read as before. No condition but that the sentinel errors hold what the program's text lays (tied).
-/
import Derived.Test.YtmfdgpinohbckaaDoorCards
import Derived.Test.YtmfdgpinohbckaaDoorTie
import Derived.Test.YtmfdgpinohbckaaDoorG
import Derived.Test.YtmfdgpinohbckaaDoorUf2
import Derived.Test.YtmfdgpinohbckaaDoorUf6
import Derived.Test.YtmfdgpinohbckaaDoorTb
import Derived.Test.YtmfdgpinohbckaaDoorGk
import Derived.SevenTiedAt
namespace Go.Proofs.YtmfdgpinohbckaaDoor
open Go.ChangeShapes Go.WideShapes Go.ChangeAt Go.RowKit Go.Deep

set_option maxRecDepth 100000 in
set_option maxHeartbeats 4000000 in
theorem uf4Law_any (ts : List Wnt) (ls : List Wnt) (A : Option Addr) (c : Nat) (B : Option Addr) (d : Nat) (s : Int) (ad : Nat → Addr) (w : World) (hl0 : ts.length ≤ 9223372036854775807) (hr0 : Rd w w.heap.size wcells A ts) (hw0 : ∀ x ∈ ts, wfW x) (hl1 : ls.length ≤ 9223372036854775807) (hr1 : Rd w w.heap.size wcells B ls) (hw1 : ∀ x ∈ ls, wfW x) (hss : wfI6 s) (hE : EW 7 w ad) :
    Calls Tryd.prog 7 #[.slice A ts.length c, .slice B ls.length d, .int .i64 s] w (Good w) := by
  have HR0 := Lib.hid hr0
  have HW0 := Lib.hid hw0
  have HR1 := Lib.hid hr1
  have HW1 := Lib.hid hw1
  have HSs := Lib.hid hss
  have HE := Lib.hid hE
  clear hE
  clear hr0 hw0 hr1 hw1 hss
  go_enter Tryd.func7, Tryd.ntmps7
  go_wp2_with fail
  refine (szStoredS_any A ts.length c (1048576) hl0 ⟨by omega, by omega⟩ _).mono ?_
  rintro e w' ⟨rfl, rfl⟩
  by_cases hn0 : (1048576 : Int) < ts.length
  · rw [if_pos hn0]
    go_wp2
    go_ret
    exact ⟨rfl, (Below.refl _ _)⟩
  rw [if_neg hn0]
  have hz0 : (0 : Int) ≤ 1048576 - ts.length := by omega
  have hm0 : ts.length ≤ 1048576 := by omega
  go_wp2_with fail
  refine (szStoredS_any B ls.length d (1048576 - ts.length) hl1 ⟨by omega, by omega⟩ _).mono ?_
  rintro e w' ⟨rfl, rfl⟩
  by_cases hn1 : (1048576 - ts.length : Int) < ls.length
  · rw [if_pos hn1]
    go_wp2
    go_ret
    exact ⟨rfl, (Below.refl _ _)⟩
  rw [if_neg hn1]
  have hz1 : (0 : Int) ≤ 1048576 - ts.length - ls.length := by omega
  have hm1 : ls.length ≤ 1048576 := by omega
  have HB_0 : Hid (Below w.heap.size w w) := Below.refl _ _
  go_wp2_with fail
  refine (toStoredS_any ts A c _ hm0 (HR0.out.keep HB_0.out)).mono ?_
  rintro e w1 ⟨rfl, hR, hb⟩
  have HB_1 : Hid (Below w.heap.size w w1) := HB_0.out.trans (hb.mono HB_0.out.size)
  clear hb HB_0
  have Y0_1 : Hid (Rs w1 w.heap.size 30 wcells ts) := hR
  clear hR
  go_wp2_with fail
  refine (toStoredS_any ls B d _ hm1 (HR1.out.keep HB_1.out)).mono ?_
  rintro e w2 ⟨rfl, hR, hb⟩
  have HB_2 : Hid (Below w.heap.size w w2) := HB_1.out.trans (hb.mono HB_1.out.size)
  have Y0_2 : Hid (Rs w2 w.heap.size 30 wcells ts) := Blk.keep Y0_1.out hb
  clear hb HB_1 Y0_1
  have Y1_2 : Hid (Rs w2 w1.heap.size 30 wcells ls) := hR
  clear hR
  go_wp2_with fail
  refine (specUnfair_any ts HW0.out ls HW1.out s _ _ _ _ _ hm0 hm1 (Y0_2.out.rd Y0_2.out.lt) (Y1_2.out.rd Y1_2.out.lt)).mono ?_
  rintro e w3 ⟨rfl, hb⟩
  clear Y0_2
  clear Y1_2
  have HB_3 : Hid (Below w.heap.size w w3) := HB_2.out.trans (hb.mono HB_2.out.size)
  clear hb HB_2
  obtain ⟨cd0, hcd0⟩ : ∃ c, ((ufN s ts ls : Nat) : Int) = c := ⟨_, rfl⟩
  have HCD0 := Lib.hid hcd0
  clear hcd0
  rw [HCD0.out]
  obtain ⟨cd1, hcd1⟩ : ∃ c, ufC s ts ls = c := ⟨_, rfl⟩
  have HCD1 := Lib.hid hcd1
  clear hcd1
  rw [HCD1.out]
  go_wp2_with fail
  refine (toStoredS_any ts A c _ hm0 (HR0.out.keep HB_3.out)).mono ?_
  rintro e w4 ⟨rfl, hR, hb⟩
  have LE0 : Hid (w.heap.size ≤ w3.heap.size) := HB_3.out.size
  have HB_4 : Hid (Below w.heap.size w w4) := HB_3.out.trans (hb.mono HB_3.out.size)
  clear hb HB_3
  have X0_4 : Hid (Rs w4 w3.heap.size 30 wcells ts) := hR
  clear hR
  go_wp2_with fail
  refine (toStoredS_any ls B d _ hm1 (HR1.out.keep HB_4.out)).mono ?_
  rintro e w5 ⟨rfl, hR, hb⟩
  have LE1 : Hid (w.heap.size ≤ w4.heap.size) := HB_4.out.size
  have LE2 : Hid (w3.heap.size < w4.heap.size) := X0_4.out.lt
  have HB_5 : Hid (Below w.heap.size w w5) := HB_4.out.trans (hb.mono HB_4.out.size)
  have X0_5 : Hid (Rs w5 w3.heap.size 30 wcells ts) := Blk.keep X0_4.out hb
  clear hb HB_4 X0_4
  have X1_5 : Hid (Rs w5 w4.heap.size 30 wcells ls) := hR
  clear hR
  go_wp2_with fail
  refine (implUnfair_any ts HW0.out ls HW1.out s _ _ _ _ ad _ hm0 hm1 (X0_5.out.rd X0_5.out.lt) (X1_5.out.rd X1_5.out.lt) (HE.out.below HB_5.out (Nat.le_refl _))).mono ?_
  rintro e w6 ⟨rfl, hb⟩
  have HB_6 : Hid (Below w.heap.size w w6) := HB_5.out.trans (hb.mono HB_5.out.size)
  have X0_6 : Hid (Rs w6 w3.heap.size 30 wcells ts) := Blk.keep X0_5.out hb
  have X1_6 : Hid (Rs w6 w4.heap.size 30 wcells ls) := Blk.keep X1_5.out hb
  clear hb HB_5 X0_5 X1_5
  rw [HCD0.out]
  rw [HCD1.out]
  go_wp2_with fail
  refine (toStoredS_any ts A c _ hm0 (HR0.out.keep HB_6.out)).mono ?_
  rintro e w7 ⟨rfl, hR, hb⟩
  have HB_7 : Hid (Below w.heap.size w w7) := HB_6.out.trans (hb.mono HB_6.out.size)
  have X0_7 : Hid (Rs w7 w3.heap.size 30 wcells ts) := Blk.keep X0_6.out hb
  have X1_7 : Hid (Rs w7 w4.heap.size 30 wcells ls) := Blk.keep X1_6.out hb
  clear hb HB_6 X0_6 X1_6
  have Z0_7 : Hid (Rs w7 w6.heap.size 30 wcells ts) := hR
  clear hR
  go_wp2_with fail
  refine (eqStoredS_same ts _ _ _ _ _ (by omega) (X0_7.out.rd X0_7.out.lt) (Z0_7.out.rd Z0_7.out.lt)).mono ?_
  rintro e w8 ⟨rfl, hb⟩
  clear Z0_7
  have HB_8 : Hid (Below w.heap.size w w8) := HB_7.out.trans (hb.mono HB_7.out.size)
  have X0_8 : Hid (Rs w8 w3.heap.size 30 wcells ts) := Blk.keep X0_7.out hb
  have X1_8 : Hid (Rs w8 w4.heap.size 30 wcells ls) := Blk.keep X1_7.out hb
  clear hb HB_7 X0_7 X1_7
  go_wp2_with fail
  refine (toStoredS_any ls B d _ hm1 (HR1.out.keep HB_8.out)).mono ?_
  rintro e w9 ⟨rfl, hR, hb⟩
  have HB_9 : Hid (Below w.heap.size w w9) := HB_8.out.trans (hb.mono HB_8.out.size)
  have X0_9 : Hid (Rs w9 w3.heap.size 30 wcells ts) := Blk.keep X0_8.out hb
  have X1_9 : Hid (Rs w9 w4.heap.size 30 wcells ls) := Blk.keep X1_8.out hb
  clear hb HB_8 X0_8 X1_8
  have Z1_9 : Hid (Rs w9 w8.heap.size 30 wcells ls) := hR
  clear hR
  go_wp2_with fail
  refine (eqStoredS_same ls _ _ _ _ _ (by omega) (X1_9.out.rd X1_9.out.lt) (Z1_9.out.rd Z1_9.out.lt)).mono ?_
  rintro e w10 ⟨rfl, hb⟩
  clear Z1_9
  have HB_10 : Hid (Below w.heap.size w w10) := HB_9.out.trans (hb.mono HB_9.out.size)
  have X0_10 : Hid (Rs w10 w3.heap.size 30 wcells ts) := Blk.keep X0_9.out hb
  have X1_10 : Hid (Rs w10 w4.heap.size 30 wcells ls) := Blk.keep X1_9.out hb
  clear hb HB_9 X0_9 X1_9
  go_wp2
  go_ret
  exact ⟨rfl, HB_10.out⟩
end Go.Proofs.YtmfdgpinohbckaaDoor
