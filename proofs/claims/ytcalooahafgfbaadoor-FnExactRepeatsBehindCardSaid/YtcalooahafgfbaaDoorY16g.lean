/-
  FnExactRepeatsBehind: for all arguments the law returns true, and they read as before. No condition but that the sentinel errors hold what the program's text lays (tied).
-/
import Derived.Test.YtcalooahafgfbaaDoorCards
import Derived.Test.YtcalooahafgfbaaDoorTie
import Derived.Test.YtcalooahafgfbaaDoorG
import Derived.Test.YtcalooahafgfbaaDoorRb3
import Derived.Test.YtcalooahafgfbaaDoorGk
import Derived.SevenTiedAt
namespace Go.Proofs.YtcalooahafgfbaaDoor
open Go.ChangeShapes Go.WideShapes Go.ChangeAt Go.RowKit Go.Deep

set_option maxRecDepth 100000 in
set_option maxHeartbeats 4000000 in
theorem rb5Law_any (l : List Wal) (A : Option Addr) (c : Nat) (n : Int) (ad : Nat → Addr) (w : World) (hl0 : l.length ≤ 9223372036854775807) (hr0 : Rd w w.heap.size vcells A l) (hw0 : ∀ x ∈ l, wfV x) (hsn : wfI6 n) (hE : EW 7 w ad) :
    Calls Tryd.prog 3 #[.int .i64 n, .slice A l.length c] w (Good w) := by
  have HR0 := Lib.hid hr0
  have HW0 := Lib.hid hw0
  have HSn := Lib.hid hsn
  have HE := Lib.hid hE
  clear hE
  clear hr0 hw0 hsn
  go_enter Tryd.func3, Tryd.ntmps3
  go_wp2_with fail
  refine (szWalkerS_any A l.length c (1048576) hl0 ⟨by omega, by omega⟩ _).mono ?_
  rintro e w' ⟨rfl, rfl⟩
  by_cases hn0 : (1048576 : Int) < l.length
  · rw [if_pos hn0]
    go_wp2
    go_ret
    exact ⟨rfl, (Below.refl _ _)⟩
  rw [if_neg hn0]
  have hz0 : (0 : Int) ≤ 1048576 - l.length := by omega
  have hm0 : l.length ≤ 1048576 := by omega
  have HB_0 : Hid (Below w.heap.size w w) := Below.refl _ _
  go_wp2_with fail
  refine (toWalkerS_any l A c _ hm0 (HR0.out.keep HB_0.out)).mono ?_
  rintro e w1 ⟨rfl, hR, hb⟩
  have HB_1 : Hid (Below w.heap.size w w1) := HB_0.out.trans (hb.mono HB_0.out.size)
  clear hb HB_0
  have Y0_1 : Hid (Rs w1 w.heap.size 36 vcells l) := hR
  clear hR
  go_wp2_with fail
  refine (specRepeats_any n HSn.out l HW0.out _ _ _ hm0 (Y0_1.out.rd Y0_1.out.lt)).mono ?_
  rintro e w2 ⟨rfl, hb⟩
  clear Y0_1
  have HB_2 : Hid (Below w.heap.size w w2) := HB_1.out.trans (hb.mono HB_1.out.size)
  clear hb HB_1
  obtain ⟨cd0, hcd0⟩ : ∃ c, rbN n l = c := ⟨_, rfl⟩
  have HCD0 := Lib.hid hcd0
  clear hcd0
  rw [HCD0.out]
  obtain ⟨cd1, hcd1⟩ : ∃ c, aeC n l = c := ⟨_, rfl⟩
  have HCD1 := Lib.hid hcd1
  clear hcd1
  rw [HCD1.out]
  go_wp2_with fail
  refine (toWalkerS_any l A c _ hm0 (HR0.out.keep HB_2.out)).mono ?_
  rintro e w3 ⟨rfl, hR, hb⟩
  have LE0 : Hid (w.heap.size ≤ w2.heap.size) := HB_2.out.size
  have HB_3 : Hid (Below w.heap.size w w3) := HB_2.out.trans (hb.mono HB_2.out.size)
  clear hb HB_2
  have X0_3 : Hid (Rs w3 w2.heap.size 36 vcells l) := hR
  clear hR
  go_wp2_with fail
  refine (implRepeats_any n HSn.out l HW0.out _ _ ad _ hm0 (X0_3.out.rd X0_3.out.lt) (HE.out.below HB_3.out (Nat.le_refl _))).mono ?_
  rintro e w4 ⟨rfl, hb⟩
  have HB_4 : Hid (Below w.heap.size w w4) := HB_3.out.trans (hb.mono HB_3.out.size)
  have X0_4 : Hid (Rs w4 w2.heap.size 36 vcells l) := Blk.keep X0_3.out hb
  clear hb HB_3 X0_3
  rw [HCD0.out]
  rw [HCD1.out]
  go_wp2_with fail
  refine (toWalkerS_any l A c _ hm0 (HR0.out.keep HB_4.out)).mono ?_
  rintro e w5 ⟨rfl, hR, hb⟩
  have HB_5 : Hid (Below w.heap.size w w5) := HB_4.out.trans (hb.mono HB_4.out.size)
  have X0_5 : Hid (Rs w5 w2.heap.size 36 vcells l) := Blk.keep X0_4.out hb
  clear hb HB_4 X0_4
  have Z0_5 : Hid (Rs w5 w4.heap.size 36 vcells l) := hR
  clear hR
  go_wp2_with fail
  refine (eqWalkerS_same l _ _ _ _ _ (by omega) (X0_5.out.rd X0_5.out.lt) (Z0_5.out.rd Z0_5.out.lt)).mono ?_
  rintro e w6 ⟨rfl, hb⟩
  clear Z0_5
  have HB_6 : Hid (Below w.heap.size w w6) := HB_5.out.trans (hb.mono HB_5.out.size)
  have X0_6 : Hid (Rs w6 w2.heap.size 36 vcells l) := Blk.keep X0_5.out hb
  clear hb HB_5 X0_5
  go_wp2
  go_ret
  exact ⟨rfl, HB_6.out⟩
end Go.Proofs.YtcalooahafgfbaaDoor
