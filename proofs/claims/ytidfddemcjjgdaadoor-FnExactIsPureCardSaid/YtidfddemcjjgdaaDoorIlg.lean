/-
  FnExactIsPure: for every argument the law returns true, and its arguments read as before. No condition but that the sentinel errors hold what the program's text lays (tied).
-/
import Derived.Test.YtidfddemcjjgdaaDoorCards
import Derived.Test.YtidfddemcjjgdaaDoorTie
import Derived.Test.YtidfddemcjjgdaaDoorG
import Derived.Test.YtidfddemcjjgdaaDoorIp
import Derived.SevenTiedAt
namespace Go.Proofs.YtidfddemcjjgdaaDoor
open Go.ChangeShapes Go.WideShapes Go.ChangeAt Go.RowKit Go.Deep

set_option maxRecDepth 100000 in
set_option maxHeartbeats 4000000 in
theorem ipLaw_any (x : Crt) (ad : Nat → Addr) (w : World) (hE : EW 7 w ad) : Calls Tryd.prog 12 #[.agg (ccells x.1).toArray] w (Good w) := by
  have HE := Lib.hid hE
  clear hE
  have HL0 := Lib.hid (CBlk.new w 25 x.1)
  have HB0 : Hid (Below w.heap.size w (w.alloc (.cells (ccells x.1).toArray 25))) := (Below.refl _ w).alloc (Nat.le_refl _) _
  obtain ⟨bb, hbb⟩ : ∃ b, ipB x.1 = b := ⟨_, rfl⟩
  obtain ⟨cc, hcc⟩ : ∃ b, ipC x.1 = b := ⟨_, rfl⟩
  have HV : Hid (ipV x.1 = .tuple #[.bool bb, .int .i64 cc]) := by show ipV x.1 = _; rw [ipV, hbb, hcc]
  clear hbb hcc
  go_enter Tryd.func12, Tryd.ntmps12
  go_wp2_with (refine wpList_load_row rfl 25 (.tmp 1) rfl w.heap.size rfl 25 _ (0, 0) _ HL0.out Tryd.underlying25 rfl (size_of_crate Tryd.sizeLc _ x.2.1) ?_)
  refine (toCrate_any x.1 x.2.1 _).mono ?_
  rintro e w1 ⟨rfl, hb⟩
  have HB1 : Hid (Below w.heap.size w w1) := HB0.out.trans (hb.mono HB0.out.size)
  have HL1 : Hid (CBlk w1 w.heap.size 25 x.1) := HL0.out.below hb HL0.out.lt
  clear hb
  clear HB0
  clear HL0
  go_wp2_with fail
  refine (specPure_any x.1 x.2 _).mono ?_
  rintro e w2 ⟨rfl, hb⟩
  have HB2 : Hid (Below w.heap.size w w2) := HB1.out.trans (hb.mono HB1.out.size)
  have HL2 : Hid (CBlk w2 w.heap.size 25 x.1) := HL1.out.below hb HL1.out.lt
  clear hb
  clear HB1
  clear HL1
  rw [HV.out]
  go_wp2_with (refine wpList_load_row rfl 25 (.tmp 1) rfl w.heap.size rfl 25 _ (0, 0) _ HL2.out Tryd.underlying25 rfl (size_of_crate Tryd.sizeLc _ x.2.1) ?_)
  refine (toCrate_any x.1 x.2.1 _).mono ?_
  rintro e w3 ⟨rfl, hb⟩
  have HB3 : Hid (Below w.heap.size w w3) := HB2.out.trans (hb.mono HB2.out.size)
  have HL3 : Hid (CBlk w3 w.heap.size 25 x.1) := HL2.out.below hb HL2.out.lt
  clear hb
  clear HB2
  clear HL2
  go_wp2_with fail
  refine (implPure_any x ad _ (HE.out.below HB3.out (Nat.le_refl _))).mono ?_
  rintro e w4 ⟨rfl, hb⟩
  have HB4 : Hid (Below w.heap.size w w4) := HB3.out.trans (hb.mono HB3.out.size)
  have HL4 : Hid (CBlk w4 w.heap.size 25 x.1) := HL3.out.below hb HL3.out.lt
  clear hb
  clear HB3
  clear HL3
  rw [HV.out]
  cases bb
  all_goals
    go_wp2
    go_ret
    exact ⟨rfl, HB4.out⟩
end Go.Proofs.YtidfddemcjjgdaaDoor
