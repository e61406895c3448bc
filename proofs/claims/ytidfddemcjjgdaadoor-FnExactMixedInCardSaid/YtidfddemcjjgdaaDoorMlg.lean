/-
  FnExactMixedIn: for every argument the law returns true, and its arguments read as before. No condition but that the sentinel errors hold what the program's text lays (tied).
-/
import Derived.Test.YtidfddemcjjgdaaDoorCards
import Derived.Test.YtidfddemcjjgdaaDoorTie
import Derived.Test.YtidfddemcjjgdaaDoorG
import Derived.Test.YtidfddemcjjgdaaDoorMi
import Derived.SevenTiedAt
namespace Go.Proofs.YtidfddemcjjgdaaDoor
open Go.ChangeShapes Go.WideShapes Go.ChangeAt Go.RowKit Go.Deep

set_option maxRecDepth 100000 in
set_option maxHeartbeats 4000000 in
theorem miLaw_any (xs : List Crt) (A : Option Addr) (c : Nat) (ad : Nat → Addr) (w : World) (hl : xs.length ≤ 9223372036854775807) (hr : Rd w w.heap.size kcells A xs) (hE : EW 7 w ad) : Calls Tryd.prog 9 #[.slice A xs.length c] w (Good w) := by
  have HR := Lib.hid hr
  have HE := Lib.hid hE
  clear hr hE
  have HB0 := Lib.hid (Below.refl w.heap.size w)
  go_enter Tryd.func9, Tryd.ntmps9
  go_wp2_with fail
  refine (szCrateS_any A xs.length c 1048576 hl ⟨by omega, by omega⟩ _).mono ?_
  rintro e w' ⟨rfl, rfl⟩
  by_cases hn : (1048576 : Int) < xs.length
  · rw [if_pos hn]
    go_wp2
    go_ret
    exact ⟨rfl, HB0.out⟩
  rw [if_neg hn]
  have hn0 : (0 : Int) ≤ 1048576 - xs.length := by omega
  have hl2 : xs.length ≤ 1048576 := by omega
  obtain ⟨bb, hbb⟩ : ∃ b, miN xs = b := ⟨_, rfl⟩
  obtain ⟨cc, hcc⟩ : ∃ b, miC xs = b := ⟨_, rfl⟩
  have HV : Hid (miV xs = .tuple #[.int .i64 bb, .int .i64 cc]) := by show miV xs = _; rw [miV, hbb, hcc]
  clear hbb hcc
  go_wp2_with fail
  refine (toCrateS_any xs A c _ hl2 (HR.out.keep HB0.out)).mono ?_
  rintro e w1 ⟨rfl, hR, hb⟩
  have HB1 : Hid (Below w.heap.size w w1) := HB0.out.trans (hb.mono HB0.out.size)
  clear hb
  clear HB0
  have HP1 := Lib.hid hR
  clear hR
  go_wp2_with fail
  refine (specMixed_any xs _ _ _ hl2 (HP1.out.rd HP1.out.lt)).mono ?_
  rintro e w2 ⟨rfl, hb⟩
  have HB2 : Hid (Below w.heap.size w w2) := HB1.out.trans (hb.mono HB1.out.size)
  clear hb
  clear HB1
  clear HP1
  rw [HV.out]
  go_wp2_with fail
  refine (toCrateS_any xs A c _ hl2 (HR.out.keep HB2.out)).mono ?_
  rintro e w3 ⟨rfl, hR, hb⟩
  have HB3 : Hid (Below w.heap.size w w3) := HB2.out.trans (hb.mono HB2.out.size)
  clear hb
  clear HB2
  have HS3 := Lib.hid hR
  clear hR
  go_wp2_with fail
  refine (implMixed_any xs _ _ ad _ hl2 (HS3.out.rd HS3.out.lt) (HE.out.below HB3.out (Nat.le_refl _))).mono ?_
  rintro e w4 ⟨rfl, hb⟩
  have HB4 : Hid (Below w.heap.size w w4) := HB3.out.trans (hb.mono HB3.out.size)
  have HS4 : Hid (Rs w4 w2.heap.size 31 kcells xs) := Blk.keep HS3.out hb
  clear hb
  clear HB3
  clear HS3
  rw [HV.out]
  go_wp2_with fail
  refine (toCrateS_any xs A c _ hl2 (HR.out.keep HB4.out)).mono ?_
  rintro e w5 ⟨rfl, hR, hb⟩
  have HB5 : Hid (Below w.heap.size w w5) := HB4.out.trans (hb.mono HB4.out.size)
  have HS5 : Hid (Rs w5 w2.heap.size 31 kcells xs) := Blk.keep HS4.out hb
  clear hb
  clear HB4
  clear HS4
  have HU5 := Lib.hid hR
  clear hR
  go_wp2_with fail
  refine (eqCrateS_same xs _ _ _ _ _ (by omega) (HS5.out.rd HS5.out.lt) (HU5.out.rd HU5.out.lt)).mono ?_
  rintro e w6 ⟨rfl, hb⟩
  have HB6 : Hid (Below w.heap.size w w6) := HB5.out.trans (hb.mono HB5.out.size)
  have HS6 : Hid (Rs w6 w2.heap.size 31 kcells xs) := Blk.keep HS5.out hb
  have HU6 : Hid (Rs w6 w4.heap.size 31 kcells xs) := Blk.keep HU5.out hb
  clear hb
  clear HB5
  clear HS5
  clear HU5
  go_wp2
  go_ret
  exact ⟨rfl, HB6.out⟩
end Go.Proofs.YtidfddemcjjgdaaDoor
