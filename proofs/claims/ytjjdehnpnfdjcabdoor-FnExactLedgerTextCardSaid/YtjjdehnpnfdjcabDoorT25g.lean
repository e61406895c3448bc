/-
  FnExactLedgerText: for all arguments the law returns true, and they read as before. No condition but that the library's tables hold what the program's text lays (tied).
-/
import Derived.Test.YtjjdehnpnfdjcabDoorCards
import Derived.Test.YtjjdehnpnfdjcabDoorTie
import Derived.Test.YtjjdehnpnfdjcabDoorGt
import Derived.Test.YtjjdehnpnfdjcabDoorLt1
import Derived.Test.YtjjdehnpnfdjcabDoorLt2
import Derived.Test.YtjjdehnpnfdjcabDoorGk
import Derived.Stop.LaidErr
import Derived.Lib.LaidTab
import Derived.SevenTiedAt
namespace Go.Proofs.YtjjdehnpnfdjcabDoor
open Go.ChangeShapes Go.WideShapes Go.ChangeAt Go.RowKit Go.Deep
structure TabS (W : World) (_ : Nat → Addr) : Prop where
  tab : Tab W
theorem TabS.below {W W' : World} {ad : Nat → Addr} (h : TabS W ad) {B : Nat} (hb : Below B W W') (hB : W.heap.size ≤ B) : TabS W' ad := ⟨h.tab.on hb hB⟩
theorem tab_ex {W : World} (h : laidMetH Tryd.prog Rows.fnExactLedgerTextRow.laid W) : ∃ ad : Nat → Addr, TabS W ad := by
  rw [MakeChecks.laidMetH_plain _ _ _ (by kernel_rfl)] at h
  exact ⟨fun _ => ⟨0, 0, none⟩, ⟨Lib.tabIs_of_head (g := 1) (rest := []) (by kernel_rfl) (by kernel_rfl) (Tryd.underlying127) (Tryd.underlying116) (by kernel_rfl) (by kernel_rfl) (laidMet.tail (laidMet.tail h))⟩⟩


set_option maxRecDepth 100000 in
set_option maxHeartbeats 4000000 in
theorem lt6Law_any (l : List Ent) (A : Option Addr) (c : Nat) (ad : Nat → Addr) (w : World) (hl0 : l.length ≤ 9223372036854775807) (hr0 : Rd w w.heap.size ecells A l) (hw0 : ∀ x ∈ l, wfE x) (hE : TabS w ad) :
    Calls Tryd.prog 5 #[.slice A l.length c] w (Good w) := by
  have HR0 := Lib.hid hr0
  have HW0 := Lib.hid hw0
  have HE := Lib.hid hE
  clear hE
  clear hr0 hw0
  go_enter Tryd.func5, Tryd.ntmps5
  go_wp2_with fail
  refine (szEntryS_any A l.length c (1048576) hl0 ⟨by omega, by omega⟩ _).mono ?_
  rintro e w' ⟨rfl, rfl⟩
  by_cases hn0 : (1048576 : Int) < l.length
  · rw [if_pos hn0]
    go_wp2
    go_ret
    exact ⟨rfl, (Below.refl _ _)⟩
  rw [if_neg hn0]
  have hz0 : (0 : Int) ≤ 1048576 - l.length := by omega
  have hm0 : l.length ≤ 1048576 := by omega
  have HB_0 : Hid (Below w.heap.size w w) := Below.refl _ _
  go_wp2_with fail
  refine (toEntryS_any l A c _ hm0 (HR0.out.keep HB_0.out)).mono ?_
  rintro e w1 ⟨rfl, hR, hb⟩
  have HB_1 : Hid (Below w.heap.size w w1) := HB_0.out.trans (hb.mono HB_0.out.size)
  clear hb HB_0
  have Y0_1 : Hid (Rs w1 w.heap.size 80 ecells l) := hR
  clear hR
  go_wp2_with fail
  refine (specLedgerText_any l HW0.out _ _ _ hm0 (Y0_1.out.rd Y0_1.out.lt)).mono ?_
  rintro e w2 ⟨rfl, hb⟩
  clear Y0_1
  have HB_2 : Hid (Below w.heap.size w w2) := HB_1.out.trans (hb.mono HB_1.out.size)
  clear hb HB_1
  obtain ⟨cd0, hcd0⟩ : ∃ c, ltA l = c := ⟨_, rfl⟩
  have HCD0 := Lib.hid hcd0
  clear hcd0
  rw [HCD0.out]
  go_wp2_with fail
  refine (toEntryS_any l A c _ hm0 (HR0.out.keep HB_2.out)).mono ?_
  rintro e w3 ⟨rfl, hR, hb⟩
  have LE0 : Hid (w.heap.size ≤ w2.heap.size) := HB_2.out.size
  have HB_3 : Hid (Below w.heap.size w w3) := HB_2.out.trans (hb.mono HB_2.out.size)
  clear hb HB_2
  have X0_3 : Hid (Rs w3 w2.heap.size 80 ecells l) := hR
  clear hR
  go_wp2_with fail
  refine (implLedgerText_any l HW0.out _ _ _ hm0 (X0_3.out.rd X0_3.out.lt) (HE.out.below HB_3.out (Nat.le_refl _)).tab).mono ?_
  rintro e w4 ⟨rfl, hb⟩
  have HB_4 : Hid (Below w.heap.size w w4) := HB_3.out.trans (hb.mono HB_3.out.size)
  have X0_4 : Hid (Rs w4 w2.heap.size 80 ecells l) := Blk.keep X0_3.out hb
  clear hb HB_3 X0_3
  rw [HCD0.out]
  go_wp2_with fail
  refine (toEntryS_any l A c _ hm0 (HR0.out.keep HB_4.out)).mono ?_
  rintro e w5 ⟨rfl, hR, hb⟩
  have HB_5 : Hid (Below w.heap.size w w5) := HB_4.out.trans (hb.mono HB_4.out.size)
  have X0_5 : Hid (Rs w5 w2.heap.size 80 ecells l) := Blk.keep X0_4.out hb
  clear hb HB_4 X0_4
  have Z0_5 : Hid (Rs w5 w4.heap.size 80 ecells l) := hR
  clear hR
  go_wp2_with fail
  refine (eqEntryS_same l _ _ _ _ _ (by omega) (X0_5.out.rd X0_5.out.lt) (Z0_5.out.rd Z0_5.out.lt)).mono ?_
  rintro e w6 ⟨rfl, hb⟩
  clear Z0_5
  have HB_6 : Hid (Below w.heap.size w w6) := HB_5.out.trans (hb.mono HB_5.out.size)
  have X0_6 : Hid (Rs w6 w2.heap.size 80 ecells l) := Blk.keep X0_5.out hb
  clear hb HB_5 X0_5
  go_wp2
  go_ret
  exact ⟨rfl, HB_6.out⟩
end Go.Proofs.YtjjdehnpnfdjcabDoor
