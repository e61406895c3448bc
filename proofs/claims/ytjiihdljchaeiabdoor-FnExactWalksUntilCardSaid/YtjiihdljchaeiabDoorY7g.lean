/-
  FnExactWalksUntil: for all arguments the law returns true, and they read as before. No condition but that the sentinel errors hold what the program's text lays (tied).
-/
import Derived.Test.YtjiihdljchaeiabDoorCards
import Derived.Test.YtjiihdljchaeiabDoorTie
import Derived.Test.YtjiihdljchaeiabDoorG
import Derived.Test.YtjiihdljchaeiabDoorYzz
import Derived.Test.YtjiihdljchaeiabDoorGk
import Derived.SevenTiedAt
namespace Go.Proofs.YtjiihdljchaeiabDoor
open Go.ChangeShapes Go.WideShapes Go.ChangeAt Go.RowKit Go.Deep

set_option maxRecDepth 100000 in
set_option maxHeartbeats 4000000 in
theorem wuLaw_any (x : Wal) (hwfx : wfV x) (n : Int) (d : Int) (ad : Nat → Addr) (w : World)  (hsn : wfI6 n) (hsd : wfI6 d) (hE : EW 7 w ad) :
    Calls Tryd.prog 5 #[.int .i64 n, .agg (vcells x).toArray, .int .i64 d] w (Good w) := by
  have HWFx := Lib.hid hwfx
  have HSn := Lib.hid hsn
  have HSd := Lib.hid hsd
  have HE := Lib.hid hE
  clear hE
  clear hwfx hsn hsd
  have h1 : Blk (w.alloc (.cells (vcells x).toArray 25)) w.heap.size 25 (vcells x).toArray := Blk.new w _ _
  have h2 : Below w.heap.size w (w.alloc (.cells (vcells x).toArray 25)) := (Below.refl _ w).alloc (Nat.le_refl _) _
  obtain ⟨W0, hW0⟩ : ∃ W0, w.alloc (.cells (vcells x).toArray 25) = W0 := ⟨_, rfl⟩
  rw [hW0] at h1 h2
  have KX_0 := Lib.hid h1
  have HB_0 := Lib.hid h2
  clear h1 h2
  go_enter Tryd.func5, Tryd.ntmps5
  go_wp2_with (refine wpList_load_row rfl 25 (.tmp 4) rfl w.heap.size rfl 25 _ (0, 0) _ KX_0.out Tryd.underlying25 rfl Tryd.sizeVL ?_)
  clear hW0
  refine (toWalker_any x _).mono ?_
  rintro e w1 ⟨rfl, hb⟩
  have HB_1 : Hid (Below w.heap.size w w1) := HB_0.out.trans (hb.mono HB_0.out.size)
  have KX_1 : Hid (Blk w1 w.heap.size 25 (vcells x).toArray) := Blk.keep KX_0.out hb
  clear hb HB_0 KX_0
  go_wp2_with fail
  refine (specWalksUntil_any n HSn.out x HWFx.out d _).mono ?_
  rintro e w2 ⟨rfl, hb⟩
  have HB_2 : Hid (Below w.heap.size w w2) := HB_1.out.trans (hb.mono HB_1.out.size)
  have KX_2 : Hid (Blk w2 w.heap.size 25 (vcells x).toArray) := Blk.keep KX_1.out hb
  clear hb HB_1 KX_1
  obtain ⟨cd0, hcd0⟩ : ∃ c, wuN n x d = c := ⟨_, rfl⟩
  have HCD0 := Lib.hid hcd0
  clear hcd0
  rw [HCD0.out]
  obtain ⟨cd1, hcd1⟩ : ∃ c, akV n [x] (inS d) = c := ⟨_, rfl⟩
  have HCD1 := Lib.hid hcd1
  clear hcd1
  rw [HCD1.out]
  go_wp2_with (refine wpList_load_row rfl 25 (.tmp 4) rfl w.heap.size rfl 25 _ (0, 0) _ KX_2.out Tryd.underlying25 rfl Tryd.sizeVL ?_)
  refine (toWalker_any x _).mono ?_
  rintro e w3 ⟨rfl, hb⟩
  have HB_3 : Hid (Below w.heap.size w w3) := HB_2.out.trans (hb.mono HB_2.out.size)
  have KX_3 : Hid (Blk w3 w.heap.size 25 (vcells x).toArray) := Blk.keep KX_2.out hb
  clear hb HB_2 KX_2
  go_wp2_with fail
  refine (implWalksUntil_any n HSn.out x HWFx.out d ad _ (HE.out.below HB_3.out (Nat.le_refl _))).mono ?_
  rintro e w4 ⟨rfl, hb⟩
  have HB_4 : Hid (Below w.heap.size w w4) := HB_3.out.trans (hb.mono HB_3.out.size)
  have KX_4 : Hid (Blk w4 w.heap.size 25 (vcells x).toArray) := Blk.keep KX_3.out hb
  clear hb HB_3 KX_3
  rw [HCD0.out]
  rw [HCD1.out]
  go_wp2
  go_ret
  exact ⟨rfl, HB_4.out⟩
end Go.Proofs.YtjiihdljchaeiabDoor
