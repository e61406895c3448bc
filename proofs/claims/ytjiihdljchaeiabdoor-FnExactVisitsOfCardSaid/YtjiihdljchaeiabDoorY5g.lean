/-
  FnExactVisitsOf: for all arguments the law returns true, and they read as before. No condition but that the sentinel errors hold what the program's text lays (tied).
-/
import Derived.Test.YtjiihdljchaeiabDoorCards
import Derived.Test.YtjiihdljchaeiabDoorTie
import Derived.Test.YtjiihdljchaeiabDoorG
import Derived.Test.YtjiihdljchaeiabDoorYz
import Derived.Test.YtjiihdljchaeiabDoorGk
import Derived.Test.YtjiihdljchaeiabDoorMkN
import Derived.SevenTiedAt
namespace Go.Proofs.YtjiihdljchaeiabDoor
open Go.ChangeShapes Go.WideShapes Go.ChangeAt Go.RowKit Go.Deep
theorem voL_len (n : Int) (x : Wal) : (voL n x).length ≤ 60 := by
  unfold voL
  split
  · have h : voC n x = 0 := by assumption
    have := (vsOk_one (akV_yes h).1).1
    rw [vis_len]; omega
  · simp

set_option maxRecDepth 100000 in
set_option maxHeartbeats 4000000 in
theorem viLaw_any (x : Wal) (hwfx : wfV x) (n : Int) (ad : Nat → Addr) (w : World)  (hsn : wfI6 n) (hE : EW 7 w ad) :
    Calls Tryd.prog 3 #[.int .i64 n, .agg (vcells x).toArray] w (Good w) := by
  have HWFx := Lib.hid hwfx
  have HSn := Lib.hid hsn
  have HE := Lib.hid hE
  clear hE
  clear hwfx hsn
  have h1 : Blk (w.alloc (.cells (vcells x).toArray 25)) w.heap.size 25 (vcells x).toArray := Blk.new w _ _
  have h2 : Below w.heap.size w (w.alloc (.cells (vcells x).toArray 25)) := (Below.refl _ w).alloc (Nat.le_refl _) _
  obtain ⟨W0, hW0⟩ : ∃ W0, w.alloc (.cells (vcells x).toArray 25) = W0 := ⟨_, rfl⟩
  rw [hW0] at h1 h2
  have KX_0 := Lib.hid h1
  have HB_0 := Lib.hid h2
  clear h1 h2
  go_enter Tryd.func3, Tryd.ntmps3
  go_wp2_with (refine wpList_load_row rfl 25 (.tmp 3) rfl w.heap.size rfl 25 _ (0, 0) _ KX_0.out Tryd.underlying25 rfl Tryd.sizeVL ?_)
  clear hW0
  refine (toWalker_any x _).mono ?_
  rintro e w1 ⟨rfl, hb⟩
  have HB_1 : Hid (Below w.heap.size w w1) := HB_0.out.trans (hb.mono HB_0.out.size)
  have KX_1 : Hid (Blk w1 w.heap.size 25 (vcells x).toArray) := Blk.keep KX_0.out hb
  clear hb HB_0 KX_0
  go_wp2_with fail
  refine (specVisits_any n HSn.out x HWFx.out _).mono ?_
  rintro e w2 ⟨v0, rfl, hO0, hb⟩
  have HB_2 : Hid (Below w.heap.size w w2) := HB_1.out.trans (hb.mono HB_1.out.size)
  have KX_2 : Hid (Blk w2 w.heap.size 25 (vcells x).toArray) := Blk.keep KX_1.out hb
  clear hb HB_1 KX_1
  obtain ⟨Av0, cv0, rfl, -, hrv0⟩ := own_rd icells_length hO0
  have RV0 : Hid (Rd w2 w2.heap.size icells Av0 (voL n x)) := hrv0
  clear hO0 hrv0
  have HV_2 : Hid (Below w2.heap.size w2 w2) := Below.refl _ _
  obtain ⟨cd0, hcd0⟩ : ∃ c, voC n x = c := ⟨_, rfl⟩
  have HCD0 := Lib.hid hcd0
  clear hcd0
  rw [HCD0.out]
  go_wp2_with (refine wpList_load_row rfl 25 (.tmp 3) rfl w.heap.size rfl 25 _ (0, 0) _ KX_2.out Tryd.underlying25 rfl Tryd.sizeVL ?_)
  refine (toWalker_any x _).mono ?_
  rintro e w3 ⟨rfl, hb⟩
  have HB_3 : Hid (Below w.heap.size w w3) := HB_2.out.trans (hb.mono HB_2.out.size)
  have HV_3 : Hid (Below w2.heap.size w2 w3) := HV_2.out.trans (hb.mono HV_2.out.size)
  have KX_3 : Hid (Blk w3 w.heap.size 25 (vcells x).toArray) := Blk.keep KX_2.out hb
  clear hb HB_2 HV_2 KX_2
  go_wp2_with fail
  refine (implVisits_any n HSn.out x HWFx.out ad _ (HE.out.below HB_3.out (Nat.le_refl _))).mono ?_
  rintro e w4 ⟨g0, rfl, hO0, hb⟩
  have LE0 : Hid (w.heap.size ≤ w3.heap.size) := HB_3.out.size
  have LE1 : Hid (w2.heap.size ≤ w3.heap.size) := HV_3.out.size
  have LE2 : Hid (w.heap.size < w3.heap.size) := KX_3.out.lt
  have HB_4 : Hid (Below w.heap.size w w4) := HB_3.out.trans (hb.mono HB_3.out.size)
  have HV_4 : Hid (Below w2.heap.size w2 w4) := HV_3.out.trans (hb.mono HV_3.out.size)
  have KX_4 : Hid (Blk w4 w.heap.size 25 (vcells x).toArray) := Blk.keep KX_3.out hb
  clear hb HB_3 HV_3 KX_3
  rw [HCD0.out]
  obtain ⟨Ag0, cg0, rfl, -, -⟩ := own_rd icells_length hO0
  have G0_4 := Lib.hid hO0
  clear hO0
  have hLlen := voL_len n x
  go_wp2_with fail
  refine (eqInt64S_same (voL n x) _ _ _ _ _ (by omega) (own_rd2 icells_length G0_4.out) (RV0.out.keep HV_4.out)).mono ?_
  rintro e w5 ⟨rfl, hb⟩
  have HB_5 : Hid (Below w.heap.size w w5) := HB_4.out.trans (hb.mono HB_4.out.size)
  have HV_5 : Hid (Below w2.heap.size w2 w5) := HV_4.out.trans (hb.mono HV_4.out.size)
  have KX_5 : Hid (Blk w5 w.heap.size 25 (vcells x).toArray) := Blk.keep KX_4.out hb
  have G0_5 : Hid (w5.ownsRow w3.heap.size 2 1 (.slice Ag0 (voL n x).length cg0) (voL n x).length ((voL n x).flatMap icells)) := own_keep' G0_4.out hb
  clear hb HB_4 HV_4 KX_4 G0_4
  have hgn0 : (0 : Int) ≤ ((voL n x).length : Int) := Int.natCast_nonneg _
  have SR := gk_src G0_5.out
  have GE := gk_ge G0_5.out
  clear G0_5
  go_wp2_with fail
  refine (mkN_any (voL n x).length Ag0 _ (1) _ (by omega) (by omega) SR).mono ?_
  rintro e w6 ⟨rfl, hM, hg, -⟩
  clear SR
  have HB_6 : Hid (Below w.heap.size w w6) := HB_5.out.grown hg HB_5.out.size (fun k e => by have lk := GE k e; have l0 := LE0.out; have l1 := LE1.out; have l2 := LE2.out; omega)
  have HV_6 : Hid (Below w2.heap.size w2 w6) := HV_5.out.grown hg HV_5.out.size (fun k e => by have lk := GE k e; have l0 := LE0.out; have l1 := LE1.out; have l2 := LE2.out; omega)
  have KX_6 : Hid (Blk w6 w.heap.size 25 (vcells x).toArray) := gk_blk KX_5.out hg (fun e => by have lk := GE _ e; have l0 := LE0.out; have l1 := LE1.out; have l2 := LE2.out; omega)
  clear hg HB_5 HV_5 KX_5
  clear GE
  have M0_6 : Hid (MkdN w6 Ag0 (voL n x).length (1)) := hM
  clear hM
  have hmn : ¬ (1 + 1 * (((voL n x).length : Nat) : Int) < 0) := by omega
  go_wp2_with fail
  refine (hdN_any (voL n x).length Ag0 _ (1) _ (by omega) (by omega) M0_6.out).mono ?_
  rintro e w' ⟨rfl, rfl⟩
  go_wp2_with (refine wpList_load_row rfl 25 (.tmp 3) rfl w.heap.size rfl 25 _ (0, 0) _ KX_6.out Tryd.underlying25 rfl Tryd.sizeVL ?_)
  refine (toWalker_any x _).mono ?_
  rintro e w7 ⟨rfl, hb⟩
  have HB_7 : Hid (Below w.heap.size w w7) := HB_6.out.trans (hb.mono HB_6.out.size)
  have HV_7 : Hid (Below w2.heap.size w2 w7) := HV_6.out.trans (hb.mono HV_6.out.size)
  have KX_7 : Hid (Blk w7 w.heap.size 25 (vcells x).toArray) := Blk.keep KX_6.out hb
  have M0_7 : Hid (MkdN w7 Ag0 (voL n x).length (1)) := M0_6.out.below hb
  clear hb HB_6 HV_6 KX_6 M0_6
  go_wp2_with fail
  refine (implVisits_any n HSn.out x HWFx.out ad _ (HE.out.below HB_7.out (Nat.le_refl _))).mono ?_
  rintro e w8 ⟨h0, rfl, hO0, hb⟩
  have HB_8 : Hid (Below w.heap.size w w8) := HB_7.out.trans (hb.mono HB_7.out.size)
  have HV_8 : Hid (Below w2.heap.size w2 w8) := HV_7.out.trans (hb.mono HV_7.out.size)
  have KX_8 : Hid (Blk w8 w.heap.size 25 (vcells x).toArray) := Blk.keep KX_7.out hb
  have M0_8 : Hid (MkdN w8 Ag0 (voL n x).length (1)) := M0_7.out.below hb
  clear hb HB_7 HV_7 KX_7 M0_7
  rw [HCD0.out]
  obtain ⟨Ah0, ch0, rfl, -, -⟩ := own_rd icells_length hO0
  have H0_8 := Lib.hid hO0
  clear hO0
  go_wp2_with fail
  refine (eqInt64S_same (voL n x) _ _ _ _ _ (by omega) (own_rd2 icells_length H0_8.out) (RV0.out.keep HV_8.out)).mono ?_
  rintro e w9 ⟨rfl, hb⟩
  have HB_9 : Hid (Below w.heap.size w w9) := HB_8.out.trans (hb.mono HB_8.out.size)
  have HV_9 : Hid (Below w2.heap.size w2 w9) := HV_8.out.trans (hb.mono HV_8.out.size)
  have KX_9 : Hid (Blk w9 w.heap.size 25 (vcells x).toArray) := Blk.keep KX_8.out hb
  have H0_9 : Hid (w9.ownsRow w7.heap.size 2 1 (.slice Ah0 (voL n x).length ch0) (voL n x).length ((voL n x).flatMap icells)) := own_keep' H0_8.out hb
  have M0_9 : Hid (MkdN w9 Ag0 (voL n x).length (1)) := M0_8.out.below hb
  clear hb HB_8 HV_8 KX_8 H0_8 M0_8
  go_wp2_with fail
  refine (hdN_any (voL n x).length Ag0 _ (1) _ (by omega) (by omega) M0_9.out).mono ?_
  rintro e w' ⟨rfl, rfl⟩
  go_wp2
  go_ret
  exact ⟨rfl, HB_9.out⟩
end Go.Proofs.YtjiihdljchaeiabDoor
