/-
  FnExactRackText: for all arguments the law returns true, and they read as before. No condition but that the library's tables and the error for what is invalid hold what the program's text lays (tied).
-/
import Derived.Test.YtjjdehnpnfdjcabDoorCards
import Derived.Test.YtjjdehnpnfdjcabDoorTie
import Derived.Test.YtjjdehnpnfdjcabDoorGs1
import Derived.Test.YtjjdehnpnfdjcabDoorRx1
import Derived.Test.YtjjdehnpnfdjcabDoorRx2
import Derived.Test.YtjjdehnpnfdjcabDoorGk
import Derived.Stop.LaidErr
import Derived.Lib.LaidTab
import Derived.SevenTiedAt
namespace Go.Proofs.YtjjdehnpnfdjcabDoor
open Go.ChangeShapes Go.WideShapes Go.ChangeAt Go.RowKit Go.Deep
structure TI (W : World) (ad : Nat → Addr) : Prop where
  tab : Tab W
  i5 : I5 W ad
theorem TI.below {W W' : World} {ad : Nat → Addr} (h : TI W ad) {B : Nat} (hb : Below B W W') (hB : W.heap.size ≤ B) : TI W' ad := ⟨h.tab.on hb hB, h.i5.below hb hB⟩
theorem ti_ex {W : World} (h : laidMetH Tryd.prog Rows.fnExactRackTextRow.laid W) : ∃ ad : Nat → Addr, TI W ad := by
  rw [MakeChecks.laidMetH_plain _ _ _ (by kernel_rfl)] at h
  have h2 := laidMet.tail (laidMet.tail h)
  obtain ⟨ad, hi⟩ := i5_of (by
    rw [MakeChecks.laidMetH_plain _ _ _ (by kernel_rfl)]
    exact laidMet.tail h2)
  exact ⟨ad, ⟨Lib.tabIs_of_head (g := 1) (by kernel_rfl) (by kernel_rfl) (Tryd.underlying127) (Tryd.underlying116) (by kernel_rfl) (by kernel_rfl) h2, hi⟩⟩


set_option maxRecDepth 100000 in
set_option maxHeartbeats 4000000 in
theorem rx4Law_any (m : List (List Wnt)) (A : Option Addr) (c : Nat) (ad : Nat → Addr) (w : World) (hl0 : m.length ≤ 9223372036854775807) (hr0 : RdN w w.heap.size wcells A m) (hx0 : ∀ xs ∈ m, xs.length ≤ 9223372036854775807) (hw0 : ∀ xs ∈ m, ∀ x ∈ xs, wfW x) (hE : TI w ad) :
    Calls Tryd.prog 4 #[.slice A m.length c] w (Good w) := by
  have HR0 := Lib.hid hr0
  have HW0 := Lib.hid hw0
  have HE := Lib.hid hE
  clear hE
  clear hr0 hw0
  go_enter Tryd.func4, Tryd.ntmps4
  go_wp2_with fail
  refine (szRack_any m A c (1048576) hl0 hx0 ⟨by omega, by omega⟩ _ HR0.out).mono ?_
  rintro e w' ⟨rfl, rfl⟩
  by_cases hn0 : (1048576 : Int) < (m.length + sumL m)
  · rw [if_pos hn0]
    go_wp2
    go_ret
    exact ⟨rfl, (Below.refl _ _)⟩
  rw [if_neg hn0]
  have hz0 : (0 : Int) ≤ 1048576 - (m.length + sumL m) := by omega
  have hm0 : m.length ≤ 1048576 := by omega
  have hsm0 : sumL m ≤ 1048576 := by omega
  have hxm0 : ∀ xs ∈ m, xs.length ≤ 1048576 := fun xs hxs => by obtain ⟨j, hj, rfl⟩ := List.mem_iff_getElem.1 hxs; have := le_sumL (List.getElem?_eq_getElem hj); omega
  have HB_0 : Hid (Below w.heap.size w w) := Below.refl _ _
  go_wp2_with fail
  refine (toRack_any m A c _ hm0 hxm0 (HR0.out.keep HB_0.out)).mono ?_
  rintro e w1 ⟨rfl, ⟨gsY0, hR⟩, hb⟩
  have HB_1 : Hid (Below w.heap.size w w1) := HB_0.out.trans (hb.mono HB_0.out.size)
  clear hb HB_0
  have Y0_1 : Hid (RsN w1 w.heap.size 62 69 wcells m gsY0) := hR
  clear hR
  go_wp2_with fail
  refine (specRackText_any m HW0.out _ _ _ hm0 hxm0 Y0_1.out.rd).mono ?_
  rintro e w2 ⟨rfl, hb⟩
  clear Y0_1
  have HB_2 : Hid (Below w.heap.size w w2) := HB_1.out.trans (hb.mono HB_1.out.size)
  clear hb HB_1
  obtain ⟨cd0, hcd0⟩ : ∃ c, rxA m = c := ⟨_, rfl⟩
  have HCD0 := Lib.hid hcd0
  clear hcd0
  rw [HCD0.out]
  go_wp2_with fail
  refine (toRack_any m A c _ hm0 hxm0 (HR0.out.keep HB_2.out)).mono ?_
  rintro e w3 ⟨rfl, ⟨gsX0, hR⟩, hb⟩
  have LE0 : Hid (w.heap.size ≤ w2.heap.size) := HB_2.out.size
  have HB_3 : Hid (Below w.heap.size w w3) := HB_2.out.trans (hb.mono HB_2.out.size)
  clear hb HB_2
  have X0_3 : Hid (RsN w3 w2.heap.size 62 69 wcells m gsX0) := hR
  clear hR
  go_wp2_with fail
  refine (implRackText_any m _ _ ad _ hm0 hxm0 X0_3.out.rd (HE.out.below HB_3.out (Nat.le_refl _)).i5 (HE.out.below HB_3.out (Nat.le_refl _)).tab).mono ?_
  rintro e w4 ⟨rfl, hb⟩
  have HB_4 : Hid (Below w.heap.size w w4) := HB_3.out.trans (hb.mono HB_3.out.size)
  have X0_4 : Hid (RsN w4 w2.heap.size 62 69 wcells m gsX0) := X0_3.out.keep hb
  clear hb HB_3 X0_3
  rw [HCD0.out]
  go_wp2_with fail
  refine (toRack_any m A c _ hm0 hxm0 (HR0.out.keep HB_4.out)).mono ?_
  rintro e w5 ⟨rfl, ⟨gsZ0, hR⟩, hb⟩
  have HB_5 : Hid (Below w.heap.size w w5) := HB_4.out.trans (hb.mono HB_4.out.size)
  have X0_5 : Hid (RsN w5 w2.heap.size 62 69 wcells m gsX0) := X0_4.out.keep hb
  clear hb HB_4 X0_4
  have Z0_5 : Hid (RsN w5 w4.heap.size 62 69 wcells m gsZ0) := hR
  clear hR
  go_wp2_with fail
  refine (eqRack_same m _ _ _ _ _ (by omega) hxm0 X0_5.out.rd Z0_5.out.rd).mono ?_
  rintro e w6 ⟨rfl, hb⟩
  clear Z0_5
  have HB_6 : Hid (Below w.heap.size w w6) := HB_5.out.trans (hb.mono HB_5.out.size)
  have X0_6 : Hid (RsN w6 w2.heap.size 62 69 wcells m gsX0) := X0_5.out.keep hb
  clear hb HB_5 X0_5
  go_wp2
  go_ret
  exact ⟨rfl, HB_6.out⟩
end Go.Proofs.YtjjdehnpnfdjcabDoor
