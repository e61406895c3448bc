/-
  FnExactMarksText: for all arguments the law returns true, and they read as before. No condition but that the sentinel errors hold what the program's text lays (tied).
-/
import Derived.Test.YtfmfgpipklmecabDoorCards
import Derived.Test.YtfmfgpipklmecabDoorTie
import Derived.Test.YtfmfgpipklmecabDoorG2
import Derived.Test.YtfmfgpipklmecabDoorMt1
import Derived.Test.YtfmfgpipklmecabDoorMt2
import Derived.Test.YtfmfgpipklmecabDoorGk
import Derived.SevenTiedAt
namespace Go.Proofs.YtfmfgpipklmecabDoor
open Go.ChangeShapes Go.WideShapes Go.ChangeAt Go.RowKit Go.Deep
theorem i05_tab {W : World} (h : laidMetH Tryd.prog Rows.fnExactMarksTextRow.laid W) : ∃ ad, I05 W ad := by
  rw [MakeChecks.laidMetH_plain _ _ _ (by kernel_rfl)] at h
  have h3 := laidMet.tail (laidMet.tail (laidMet.tail h))
  refine i05_of ?_
  rw [MakeChecks.laidMetH_plain _ _ _ (by kernel_rfl)]
  exact h3


set_option maxRecDepth 100000 in
set_option maxHeartbeats 4000000 in
theorem mt7Law_any (m : List (List Int)) (A : Option Addr) (c : Nat) (n : Int) (ad : Nat → Addr) (w : World) (hl0 : m.length ≤ 9223372036854775807) (hr0 : RdN w w.heap.size icells A m) (hx0 : ∀ xs ∈ m, xs.length ≤ 9223372036854775807) (hw0 : ∀ xs ∈ m, ∀ x ∈ xs, wfI x) (hsn : wfI6 n) (hE : I05 w ad) :
    Calls Tryd.prog 6 #[.int .i64 n, .slice A m.length c] w (Good w) := by
  have HR0 := Lib.hid hr0
  have HW0 := Lib.hid hw0
  have HSn := Lib.hid hsn
  have HE := Lib.hid hE
  clear hE
  clear hr0 hw0 hsn
  go_enter Tryd.func6, Tryd.ntmps6
  go_wp2_with fail
  refine (szMarks_any m A c (1048576) hl0 hx0 ⟨by omega, by omega⟩ _ HR0.out).mono ?_
  rintro e w' ⟨rfl, rfl⟩
  by_cases hn0 : (1048576 : Int) < (m.length + sumL m)
  · rw [if_pos hn0]
    go_wp2
    go_ret
    exact ⟨rfl, (Below.refl _ _)⟩
  rw [if_neg hn0]
  have hz0 : (0 : Int) ≤ 1048576 - (m.length + sumL m) := by omega
  have hm0 : m.length ≤ 1048576 := by omega
  have hsm0 : sumL m ≤ 1048576 := by omega
  have hxm0 : ∀ xs ∈ m, xs.length ≤ 1048576 := fun xs hxs => by obtain ⟨j, hj, rfl⟩ := List.mem_iff_getElem.1 hxs; have := le_sumL (List.getElem?_eq_getElem hj); omega
  have HB_0 : Hid (Below w.heap.size w w) := Below.refl _ _
  go_wp2_with fail
  refine (toMarks_any m A c _ hm0 hxm0 (HR0.out.keep HB_0.out)).mono ?_
  rintro e w1 ⟨rfl, ⟨gsY0, hR⟩, hb⟩
  have HB_1 : Hid (Below w.heap.size w w1) := HB_0.out.trans (hb.mono HB_0.out.size)
  clear hb HB_0
  have Y0_1 : Hid (RsN w1 w.heap.size 24 2 icells m gsY0) := hR
  clear hR
  go_wp2_with fail
  refine (specMarksText_any n m _ _ _ hm0 hxm0 Y0_1.out.rd).mono ?_
  rintro e w2 ⟨rfl, hb⟩
  clear Y0_1
  have HB_2 : Hid (Below w.heap.size w w2) := HB_1.out.trans (hb.mono HB_1.out.size)
  clear hb HB_1
  obtain ⟨cd0, hcd0⟩ : ∃ c, mtA n m = c := ⟨_, rfl⟩
  have HCD0 := Lib.hid hcd0
  clear hcd0
  rw [HCD0.out]
  go_wp2_with fail
  refine (toMarks_any m A c _ hm0 hxm0 (HR0.out.keep HB_2.out)).mono ?_
  rintro e w3 ⟨rfl, ⟨gsX0, hR⟩, hb⟩
  have LE0 : Hid (w.heap.size ≤ w2.heap.size) := HB_2.out.size
  have HB_3 : Hid (Below w.heap.size w w3) := HB_2.out.trans (hb.mono HB_2.out.size)
  clear hb HB_2
  have X0_3 : Hid (RsN w3 w2.heap.size 24 2 icells m gsX0) := hR
  clear hR
  go_wp2_with fail
  refine (implMarksText_any n m _ _ ad _ hm0 hxm0 X0_3.out.rd (HE.out.below HB_3.out (Nat.le_refl _))).mono ?_
  rintro e w4 ⟨rfl, hb⟩
  have HB_4 : Hid (Below w.heap.size w w4) := HB_3.out.trans (hb.mono HB_3.out.size)
  have X0_4 : Hid (RsN w4 w2.heap.size 24 2 icells m gsX0) := X0_3.out.keep hb
  clear hb HB_3 X0_3
  rw [HCD0.out]
  go_wp2_with fail
  refine (toMarks_any m A c _ hm0 hxm0 (HR0.out.keep HB_4.out)).mono ?_
  rintro e w5 ⟨rfl, ⟨gsZ0, hR⟩, hb⟩
  have HB_5 : Hid (Below w.heap.size w w5) := HB_4.out.trans (hb.mono HB_4.out.size)
  have X0_5 : Hid (RsN w5 w2.heap.size 24 2 icells m gsX0) := X0_4.out.keep hb
  clear hb HB_4 X0_4
  have Z0_5 : Hid (RsN w5 w4.heap.size 24 2 icells m gsZ0) := hR
  clear hR
  go_wp2_with fail
  refine (eqMarks_same m _ _ _ _ _ (by omega) hxm0 X0_5.out.rd Z0_5.out.rd).mono ?_
  rintro e w6 ⟨rfl, hb⟩
  clear Z0_5
  have HB_6 : Hid (Below w.heap.size w w6) := HB_5.out.trans (hb.mono HB_5.out.size)
  have X0_6 : Hid (RsN w6 w2.heap.size 24 2 icells m gsX0) := X0_5.out.keep hb
  clear hb HB_5 X0_5
  go_wp2
  go_ret
  exact ⟨rfl, HB_6.out⟩
end Go.Proofs.YtfmfgpipklmecabDoor
