/-
  The contracts of the program's TakeBottle. Condition: the sentinel errors lie as the row lists them.
-/
import Derived.Test.YtjiihdljchaeiadDoorFE
import Derived.Test.YtjiihdljchaeiadDoorFF
namespace Go.Proofs.YtjiihdljchaeiadDoor
open Go.ChangeShapes Go.WideShapes Go.ChangeAt Go.RowKit Go.Deep
set_option maxRecDepth 100000 in
set_option maxHeartbeats 1000000 in
theorem implTake_bad0 (bs : List Bot) (hwf : WfC bs) (n : Int) (hn : 0 ≤ n ∧ n < 12) (hok : okC bs = false) (ad : Nat → Addr) (w : World) (hE : EW 7 w ad) : Calls Tryd.prog 13 #[.agg (ccells bs).toArray, .int .i64 n] w fun e w' => e = .returned (takeV noB (0, 0) 1) ∧ Below w.heap.size w w' := by
  have HW := Lib.hid hwf
  have HE := Lib.hid hE
  clear hwf hE
  have h1 : CBlk (((w.alloc (.cells (ccells bs).toArray 28)).alloc (.cells #[.int .u8 0, .int .i16 0, .int .u8 0, .int .i16 0, .int .u8 0, .int .i16 0, .int .u8 0, .int .i16 0, .int .u8 0, .int .i16 0, .int .u8 0, .int .i16 0, .int .u8 0, .int .i16 0, .int .u8 0, .int .i16 0, .int .u8 0, .int .i16 0, .int .u8 0, .int .i16 0, .int .u8 0, .int .i16 0, .int .u8 0, .int .i16 0] 28)).alloc (.cells #[.int .u8 0, .int .i16 0] 26)) w.heap.size 28 bs := ((CBlk.new w 28 bs).alloc _).alloc _
  have h2 : CBlk (((w.alloc (.cells (ccells bs).toArray 28)).alloc (.cells #[.int .u8 0, .int .i16 0, .int .u8 0, .int .i16 0, .int .u8 0, .int .i16 0, .int .u8 0, .int .i16 0, .int .u8 0, .int .i16 0, .int .u8 0, .int .i16 0, .int .u8 0, .int .i16 0, .int .u8 0, .int .i16 0, .int .u8 0, .int .i16 0, .int .u8 0, .int .i16 0, .int .u8 0, .int .i16 0, .int .u8 0, .int .i16 0] 28)).alloc (.cells #[.int .u8 0, .int .i16 0] 26)) (w.heap.size + 1) 28 noB := by
    refine CBlk.alloc ?_ _
    exact CBlk.new' (by simp) rfl
  have h3 : CBlk (((w.alloc (.cells (ccells bs).toArray 28)).alloc (.cells #[.int .u8 0, .int .i16 0, .int .u8 0, .int .i16 0, .int .u8 0, .int .i16 0, .int .u8 0, .int .i16 0, .int .u8 0, .int .i16 0, .int .u8 0, .int .i16 0, .int .u8 0, .int .i16 0, .int .u8 0, .int .i16 0, .int .u8 0, .int .i16 0, .int .u8 0, .int .i16 0, .int .u8 0, .int .i16 0, .int .u8 0, .int .i16 0] 28)).alloc (.cells #[.int .u8 0, .int .i16 0] 26)) (w.heap.size + 1 + 1) 26 [(0, 0)] := CBlk.new' (by simp) rfl
  have h4 : Below w.heap.size w (((w.alloc (.cells (ccells bs).toArray 28)).alloc (.cells #[.int .u8 0, .int .i16 0, .int .u8 0, .int .i16 0, .int .u8 0, .int .i16 0, .int .u8 0, .int .i16 0, .int .u8 0, .int .i16 0, .int .u8 0, .int .i16 0, .int .u8 0, .int .i16 0, .int .u8 0, .int .i16 0, .int .u8 0, .int .i16 0, .int .u8 0, .int .i16 0, .int .u8 0, .int .i16 0, .int .u8 0, .int .i16 0] 28)).alloc (.cells #[.int .u8 0, .int .i16 0] 26)) := (by repeat (first | exact Below.refl _ _ | refine Below.drew ?_ | refine Below.alloc ?_ (by simp <;> omega) _ | refine Below.setCell ?_ (by simp <;> omega) _))
  have H1 := Lib.hid h1
  have H2 := Lib.hid h2
  have H3 := Lib.hid h3
  have H4 := Lib.hid h4
  clear h1 h2 h3 h4
  go_enter Tryd.func13, Tryd.ntmps13
  go_wp2_with (first
    | (refine wpList_load_row rfl 28 (.tmp 2) rfl w.heap.size rfl 28 _ (0, 0) _ H1.out Tryd.underlying28 rfl (size_of_crate Tryd.sizeCr _ HW.out.1) ?_)
    | (refine wpList_oneCrate rfl 60 28 (.tmp 9) rfl bs HW.out.1 rfl Tryd.underlying60 Tryd.sizeCr Tryd.zeroCr ?_))
  obtain ⟨W0, hW0⟩ : ∃ W0, (((w.alloc (.cells (ccells bs).toArray 28)).alloc (.cells #[.int .u8 0, .int .i16 0, .int .u8 0, .int .i16 0, .int .u8 0, .int .i16 0, .int .u8 0, .int .i16 0, .int .u8 0, .int .i16 0, .int .u8 0, .int .i16 0, .int .u8 0, .int .i16 0, .int .u8 0, .int .i16 0, .int .u8 0, .int .i16 0, .int .u8 0, .int .i16 0, .int .u8 0, .int .i16 0, .int .u8 0, .int .i16 0] 28)).alloc (.cells #[.int .u8 0, .int .i16 0] 26)).alloc (.cells (ccells bs).toArray 28) = W0 := ⟨_, rfl⟩
  have g1 : CBlk W0 w.heap.size 28 bs := by rw [← hW0]; exact CBlk.alloc H1.out _
  have g2 : CBlk W0 (w.heap.size + 1) 28 noB := by rw [← hW0]; exact CBlk.alloc H2.out _
  have g3 : CBlk W0 (w.heap.size + 1 + 1) 26 [(0, 0)] := by rw [← hW0]; exact CBlk.alloc H3.out _
  have g5 : CBlk W0 (w.heap.size + 1 + 1 + 1) 28 bs := by rw [← hW0]; exact CBlk.new' (by simp) rfl
  have g4 : Below w.heap.size w W0 := by rw [← hW0]; exact Below.alloc H4.out (by simp <;> omega) _
  rw [hW0]
  have G1 := Lib.hid g1
  have G2 := Lib.hid g2
  have G3 := Lib.hid g3
  have G4 := Lib.hid g4
  have G5 := Lib.hid g5
  clear hW0 g1 g2 g3 g4 g5 H1 H2 H3 H4
  refine (checkOne_any bs HW.out _ _ ad _ G5.out (HE.out.below G4.out (Nat.le_refl _))).mono ?_
  rintro e w1 ⟨rfl, hb1⟩
  have HB1 : Hid (Below w.heap.size w w1) := G4.out.trans (hb1.mono G4.out.size)
  have K1 : Hid (CBlk w1 w.heap.size 28 bs) := G1.out.below hb1 G1.out.lt
  have K2 : Hid (CBlk w1 (w.heap.size + 1) 28 noB) := G2.out.below hb1 G2.out.lt
  have K3 : Hid (CBlk w1 (w.heap.size + 1 + 1) 26 [(0, 0)]) := G3.out.below hb1 G3.out.lt
  clear hb1 G1 G2 G3 G4 G5
  have hv0 : chkV ad (okC bs) = .iface 81 (.pointer (some (ad 5))) := by rw [hok]; rfl
  rw [hv0]
  clear hv0
  go_wp2_with fail
  refine (checkPlace_any _ ad _ (HE.out.below HB1.out (Nat.le_refl _))).mono ?_
  rintro e w1' ⟨rfl, rfl⟩
  have hv1 : plV ad n = .nilIface := by unfold plV; rw [if_pos hn]
  rw [hv1]
  clear hv1
  go_wp2_with fail
  have q := new_cell2 w1 (.iface 81 (.pointer (some (ad 5)))) (.nilIface) 49
  obtain ⟨W1, hW1⟩ : ∃ W1, w1.alloc (.cells #[.iface 81 (.pointer (some (ad 5))), .nilIface] 49) = W1 := ⟨_, rfl⟩
  have g1 : CBlk W1 w.heap.size 28 bs := by rw [← hW1]; exact CBlk.alloc K1.out _
  have g2 : CBlk W1 (w.heap.size + 1) 28 noB := by rw [← hW1]; exact CBlk.alloc K2.out _
  have g3 : CBlk W1 (w.heap.size + 1 + 1) 26 [(0, 0)] := by rw [← hW1]; exact CBlk.alloc K3.out _
  have g4 : Below w.heap.size w W1 := by rw [← hW1]; exact Below.alloc HB1.out HB1.out.size _
  rw [hW1] at q ⊢
  have L1 := Lib.hid g1
  have L2 := Lib.hid g2
  have L3 := Lib.hid g3
  have HB2 := Lib.hid g4
  have Q := Lib.hid q
  clear hW1 g1 g2 g3 g4 q K1 K2 K3 HB1
  refine (first2_hit (ad 5) _ _ _ Q.out.1).mono ?_
  rintro e w2' ⟨rfl, rfl⟩
  clear Q
  go_wp2_with fail
  refine (codeOf_5 (HE.out.below HB2.out (Nat.le_refl _))).mono ?_
  rintro e w3' ⟨rfl, rfl⟩
  have K4 : Hid (CBlk (W1.setRow (w.heap.size + 1) (ccells noB).toArray) (w.heap.size + 1 + 1) 26 [(0, 0)]) := L3.out.rowOff (by omega) _
  go_wp2_with (first
    | (refine wpList_store_row rfl 28 (.tmp 4) (.tmp 18) rfl (w.heap.size + 1) (ccells noB).toArray rfl rfl 28 _ L2.out (size_of_crate Tryd.sizeCr _ rfl) rfl (ccells_one _) ?_)
    | (refine wpList_store_row rfl 26 (.tmp 5) (.tmp 19) rfl (w.heap.size + 1 + 1) (ccells [(0, 0)]).toArray rfl rfl 26 _ K4.out (size_of_bot Tryd.sizeBt _) rfl (ccells_one _) ?_))
  exact bodyPost_ret (v := takeV noB (0, 0) 1) (results_cct (v2 := .int .i64 1) rfl _ (by rfl) _ _ _ 28 26 _ _ (0, 0) (0, 0) _ _ rfl rfl ((CBlk.setRow (Y := noB) L2.out).rowOff (by omega) _) (K4.out.setRow (Y := [(0, 0)])) Tryd.underlying28 rfl (size_of_crate Tryd.sizeCr _ rfl) Tryd.underlying26 rfl (size_of_bot Tryd.sizeBt _)) rfl ⟨rfl, Below.setRow (Below.setRow HB2.out _ _ (by omega)) _ _ (by omega)⟩

set_option maxRecDepth 100000 in
set_option maxHeartbeats 1000000 in
theorem implTake_bad1 (bs : List Bot) (hwf : WfC bs) (n : Int) (hn : ¬ (0 ≤ n ∧ n < 12)) (hok : okC bs = false) (ad : Nat → Addr) (w : World) (hE : EW 7 w ad) : Calls Tryd.prog 13 #[.agg (ccells bs).toArray, .int .i64 n] w fun e w' => e = .returned (takeV noB (0, 0) 1) ∧ Below w.heap.size w w' := by
  have HW := Lib.hid hwf
  have HE := Lib.hid hE
  clear hwf hE
  have h1 : CBlk (((w.alloc (.cells (ccells bs).toArray 28)).alloc (.cells #[.int .u8 0, .int .i16 0, .int .u8 0, .int .i16 0, .int .u8 0, .int .i16 0, .int .u8 0, .int .i16 0, .int .u8 0, .int .i16 0, .int .u8 0, .int .i16 0, .int .u8 0, .int .i16 0, .int .u8 0, .int .i16 0, .int .u8 0, .int .i16 0, .int .u8 0, .int .i16 0, .int .u8 0, .int .i16 0, .int .u8 0, .int .i16 0] 28)).alloc (.cells #[.int .u8 0, .int .i16 0] 26)) w.heap.size 28 bs := ((CBlk.new w 28 bs).alloc _).alloc _
  have h2 : CBlk (((w.alloc (.cells (ccells bs).toArray 28)).alloc (.cells #[.int .u8 0, .int .i16 0, .int .u8 0, .int .i16 0, .int .u8 0, .int .i16 0, .int .u8 0, .int .i16 0, .int .u8 0, .int .i16 0, .int .u8 0, .int .i16 0, .int .u8 0, .int .i16 0, .int .u8 0, .int .i16 0, .int .u8 0, .int .i16 0, .int .u8 0, .int .i16 0, .int .u8 0, .int .i16 0, .int .u8 0, .int .i16 0] 28)).alloc (.cells #[.int .u8 0, .int .i16 0] 26)) (w.heap.size + 1) 28 noB := by
    refine CBlk.alloc ?_ _
    exact CBlk.new' (by simp) rfl
  have h3 : CBlk (((w.alloc (.cells (ccells bs).toArray 28)).alloc (.cells #[.int .u8 0, .int .i16 0, .int .u8 0, .int .i16 0, .int .u8 0, .int .i16 0, .int .u8 0, .int .i16 0, .int .u8 0, .int .i16 0, .int .u8 0, .int .i16 0, .int .u8 0, .int .i16 0, .int .u8 0, .int .i16 0, .int .u8 0, .int .i16 0, .int .u8 0, .int .i16 0, .int .u8 0, .int .i16 0, .int .u8 0, .int .i16 0] 28)).alloc (.cells #[.int .u8 0, .int .i16 0] 26)) (w.heap.size + 1 + 1) 26 [(0, 0)] := CBlk.new' (by simp) rfl
  have h4 : Below w.heap.size w (((w.alloc (.cells (ccells bs).toArray 28)).alloc (.cells #[.int .u8 0, .int .i16 0, .int .u8 0, .int .i16 0, .int .u8 0, .int .i16 0, .int .u8 0, .int .i16 0, .int .u8 0, .int .i16 0, .int .u8 0, .int .i16 0, .int .u8 0, .int .i16 0, .int .u8 0, .int .i16 0, .int .u8 0, .int .i16 0, .int .u8 0, .int .i16 0, .int .u8 0, .int .i16 0, .int .u8 0, .int .i16 0] 28)).alloc (.cells #[.int .u8 0, .int .i16 0] 26)) := (by repeat (first | exact Below.refl _ _ | refine Below.drew ?_ | refine Below.alloc ?_ (by simp <;> omega) _ | refine Below.setCell ?_ (by simp <;> omega) _))
  have H1 := Lib.hid h1
  have H2 := Lib.hid h2
  have H3 := Lib.hid h3
  have H4 := Lib.hid h4
  clear h1 h2 h3 h4
  go_enter Tryd.func13, Tryd.ntmps13
  go_wp2_with (first
    | (refine wpList_load_row rfl 28 (.tmp 2) rfl w.heap.size rfl 28 _ (0, 0) _ H1.out Tryd.underlying28 rfl (size_of_crate Tryd.sizeCr _ HW.out.1) ?_)
    | (refine wpList_oneCrate rfl 60 28 (.tmp 9) rfl bs HW.out.1 rfl Tryd.underlying60 Tryd.sizeCr Tryd.zeroCr ?_))
  obtain ⟨W0, hW0⟩ : ∃ W0, (((w.alloc (.cells (ccells bs).toArray 28)).alloc (.cells #[.int .u8 0, .int .i16 0, .int .u8 0, .int .i16 0, .int .u8 0, .int .i16 0, .int .u8 0, .int .i16 0, .int .u8 0, .int .i16 0, .int .u8 0, .int .i16 0, .int .u8 0, .int .i16 0, .int .u8 0, .int .i16 0, .int .u8 0, .int .i16 0, .int .u8 0, .int .i16 0, .int .u8 0, .int .i16 0, .int .u8 0, .int .i16 0] 28)).alloc (.cells #[.int .u8 0, .int .i16 0] 26)).alloc (.cells (ccells bs).toArray 28) = W0 := ⟨_, rfl⟩
  have g1 : CBlk W0 w.heap.size 28 bs := by rw [← hW0]; exact CBlk.alloc H1.out _
  have g2 : CBlk W0 (w.heap.size + 1) 28 noB := by rw [← hW0]; exact CBlk.alloc H2.out _
  have g3 : CBlk W0 (w.heap.size + 1 + 1) 26 [(0, 0)] := by rw [← hW0]; exact CBlk.alloc H3.out _
  have g5 : CBlk W0 (w.heap.size + 1 + 1 + 1) 28 bs := by rw [← hW0]; exact CBlk.new' (by simp) rfl
  have g4 : Below w.heap.size w W0 := by rw [← hW0]; exact Below.alloc H4.out (by simp <;> omega) _
  rw [hW0]
  have G1 := Lib.hid g1
  have G2 := Lib.hid g2
  have G3 := Lib.hid g3
  have G4 := Lib.hid g4
  have G5 := Lib.hid g5
  clear hW0 g1 g2 g3 g4 g5 H1 H2 H3 H4
  refine (checkOne_any bs HW.out _ _ ad _ G5.out (HE.out.below G4.out (Nat.le_refl _))).mono ?_
  rintro e w1 ⟨rfl, hb1⟩
  have HB1 : Hid (Below w.heap.size w w1) := G4.out.trans (hb1.mono G4.out.size)
  have K1 : Hid (CBlk w1 w.heap.size 28 bs) := G1.out.below hb1 G1.out.lt
  have K2 : Hid (CBlk w1 (w.heap.size + 1) 28 noB) := G2.out.below hb1 G2.out.lt
  have K3 : Hid (CBlk w1 (w.heap.size + 1 + 1) 26 [(0, 0)]) := G3.out.below hb1 G3.out.lt
  clear hb1 G1 G2 G3 G4 G5
  have hv0 : chkV ad (okC bs) = .iface 81 (.pointer (some (ad 5))) := by rw [hok]; rfl
  rw [hv0]
  clear hv0
  go_wp2_with fail
  refine (checkPlace_any _ ad _ (HE.out.below HB1.out (Nat.le_refl _))).mono ?_
  rintro e w1' ⟨rfl, rfl⟩
  have hv1 : plV ad n = .iface 81 (.pointer (some (ad 0))) := by unfold plV; rw [if_neg hn]; rfl
  rw [hv1]
  clear hv1
  go_wp2_with fail
  have q := new_cell2 w1 (.iface 81 (.pointer (some (ad 5)))) (.iface 81 (.pointer (some (ad 0)))) 49
  obtain ⟨W1, hW1⟩ : ∃ W1, w1.alloc (.cells #[.iface 81 (.pointer (some (ad 5))), .iface 81 (.pointer (some (ad 0)))] 49) = W1 := ⟨_, rfl⟩
  have g1 : CBlk W1 w.heap.size 28 bs := by rw [← hW1]; exact CBlk.alloc K1.out _
  have g2 : CBlk W1 (w.heap.size + 1) 28 noB := by rw [← hW1]; exact CBlk.alloc K2.out _
  have g3 : CBlk W1 (w.heap.size + 1 + 1) 26 [(0, 0)] := by rw [← hW1]; exact CBlk.alloc K3.out _
  have g4 : Below w.heap.size w W1 := by rw [← hW1]; exact Below.alloc HB1.out HB1.out.size _
  rw [hW1] at q ⊢
  have L1 := Lib.hid g1
  have L2 := Lib.hid g2
  have L3 := Lib.hid g3
  have HB2 := Lib.hid g4
  have Q := Lib.hid q
  clear hW1 g1 g2 g3 g4 q K1 K2 K3 HB1
  refine (first2_hit (ad 5) _ _ _ Q.out.1).mono ?_
  rintro e w2' ⟨rfl, rfl⟩
  clear Q
  go_wp2_with fail
  refine (codeOf_5 (HE.out.below HB2.out (Nat.le_refl _))).mono ?_
  rintro e w3' ⟨rfl, rfl⟩
  have K4 : Hid (CBlk (W1.setRow (w.heap.size + 1) (ccells noB).toArray) (w.heap.size + 1 + 1) 26 [(0, 0)]) := L3.out.rowOff (by omega) _
  go_wp2_with (first
    | (refine wpList_store_row rfl 28 (.tmp 4) (.tmp 18) rfl (w.heap.size + 1) (ccells noB).toArray rfl rfl 28 _ L2.out (size_of_crate Tryd.sizeCr _ rfl) rfl (ccells_one _) ?_)
    | (refine wpList_store_row rfl 26 (.tmp 5) (.tmp 19) rfl (w.heap.size + 1 + 1) (ccells [(0, 0)]).toArray rfl rfl 26 _ K4.out (size_of_bot Tryd.sizeBt _) rfl (ccells_one _) ?_))
  exact bodyPost_ret (v := takeV noB (0, 0) 1) (results_cct (v2 := .int .i64 1) rfl _ (by rfl) _ _ _ 28 26 _ _ (0, 0) (0, 0) _ _ rfl rfl ((CBlk.setRow (Y := noB) L2.out).rowOff (by omega) _) (K4.out.setRow (Y := [(0, 0)])) Tryd.underlying28 rfl (size_of_crate Tryd.sizeCr _ rfl) Tryd.underlying26 rfl (size_of_bot Tryd.sizeBt _)) rfl ⟨rfl, Below.setRow (Below.setRow HB2.out _ _ (by omega)) _ _ (by omega)⟩

set_option maxRecDepth 100000 in
set_option maxHeartbeats 1000000 in
theorem implTake_range (bs : List Bot) (hwf : WfC bs) (n : Int) (hn : ¬ (0 ≤ n ∧ n < 12)) (hok : okC bs = true) (ad : Nat → Addr) (w : World) (hE : EW 7 w ad) : Calls Tryd.prog 13 #[.agg (ccells bs).toArray, .int .i64 n] w fun e w' => e = .returned (takeV noB (0, 0) 2) ∧ Below w.heap.size w w' := by
  have HW := Lib.hid hwf
  have HE := Lib.hid hE
  clear hwf hE
  have h1 : CBlk (((w.alloc (.cells (ccells bs).toArray 28)).alloc (.cells #[.int .u8 0, .int .i16 0, .int .u8 0, .int .i16 0, .int .u8 0, .int .i16 0, .int .u8 0, .int .i16 0, .int .u8 0, .int .i16 0, .int .u8 0, .int .i16 0, .int .u8 0, .int .i16 0, .int .u8 0, .int .i16 0, .int .u8 0, .int .i16 0, .int .u8 0, .int .i16 0, .int .u8 0, .int .i16 0, .int .u8 0, .int .i16 0] 28)).alloc (.cells #[.int .u8 0, .int .i16 0] 26)) w.heap.size 28 bs := ((CBlk.new w 28 bs).alloc _).alloc _
  have h2 : CBlk (((w.alloc (.cells (ccells bs).toArray 28)).alloc (.cells #[.int .u8 0, .int .i16 0, .int .u8 0, .int .i16 0, .int .u8 0, .int .i16 0, .int .u8 0, .int .i16 0, .int .u8 0, .int .i16 0, .int .u8 0, .int .i16 0, .int .u8 0, .int .i16 0, .int .u8 0, .int .i16 0, .int .u8 0, .int .i16 0, .int .u8 0, .int .i16 0, .int .u8 0, .int .i16 0, .int .u8 0, .int .i16 0] 28)).alloc (.cells #[.int .u8 0, .int .i16 0] 26)) (w.heap.size + 1) 28 noB := by
    refine CBlk.alloc ?_ _
    exact CBlk.new' (by simp) rfl
  have h3 : CBlk (((w.alloc (.cells (ccells bs).toArray 28)).alloc (.cells #[.int .u8 0, .int .i16 0, .int .u8 0, .int .i16 0, .int .u8 0, .int .i16 0, .int .u8 0, .int .i16 0, .int .u8 0, .int .i16 0, .int .u8 0, .int .i16 0, .int .u8 0, .int .i16 0, .int .u8 0, .int .i16 0, .int .u8 0, .int .i16 0, .int .u8 0, .int .i16 0, .int .u8 0, .int .i16 0, .int .u8 0, .int .i16 0] 28)).alloc (.cells #[.int .u8 0, .int .i16 0] 26)) (w.heap.size + 1 + 1) 26 [(0, 0)] := CBlk.new' (by simp) rfl
  have h4 : Below w.heap.size w (((w.alloc (.cells (ccells bs).toArray 28)).alloc (.cells #[.int .u8 0, .int .i16 0, .int .u8 0, .int .i16 0, .int .u8 0, .int .i16 0, .int .u8 0, .int .i16 0, .int .u8 0, .int .i16 0, .int .u8 0, .int .i16 0, .int .u8 0, .int .i16 0, .int .u8 0, .int .i16 0, .int .u8 0, .int .i16 0, .int .u8 0, .int .i16 0, .int .u8 0, .int .i16 0, .int .u8 0, .int .i16 0] 28)).alloc (.cells #[.int .u8 0, .int .i16 0] 26)) := (by repeat (first | exact Below.refl _ _ | refine Below.drew ?_ | refine Below.alloc ?_ (by simp <;> omega) _ | refine Below.setCell ?_ (by simp <;> omega) _))
  have H1 := Lib.hid h1
  have H2 := Lib.hid h2
  have H3 := Lib.hid h3
  have H4 := Lib.hid h4
  clear h1 h2 h3 h4
  go_enter Tryd.func13, Tryd.ntmps13
  go_wp2_with (first
    | (refine wpList_load_row rfl 28 (.tmp 2) rfl w.heap.size rfl 28 _ (0, 0) _ H1.out Tryd.underlying28 rfl (size_of_crate Tryd.sizeCr _ HW.out.1) ?_)
    | (refine wpList_oneCrate rfl 60 28 (.tmp 9) rfl bs HW.out.1 rfl Tryd.underlying60 Tryd.sizeCr Tryd.zeroCr ?_))
  obtain ⟨W0, hW0⟩ : ∃ W0, (((w.alloc (.cells (ccells bs).toArray 28)).alloc (.cells #[.int .u8 0, .int .i16 0, .int .u8 0, .int .i16 0, .int .u8 0, .int .i16 0, .int .u8 0, .int .i16 0, .int .u8 0, .int .i16 0, .int .u8 0, .int .i16 0, .int .u8 0, .int .i16 0, .int .u8 0, .int .i16 0, .int .u8 0, .int .i16 0, .int .u8 0, .int .i16 0, .int .u8 0, .int .i16 0, .int .u8 0, .int .i16 0] 28)).alloc (.cells #[.int .u8 0, .int .i16 0] 26)).alloc (.cells (ccells bs).toArray 28) = W0 := ⟨_, rfl⟩
  have g1 : CBlk W0 w.heap.size 28 bs := by rw [← hW0]; exact CBlk.alloc H1.out _
  have g2 : CBlk W0 (w.heap.size + 1) 28 noB := by rw [← hW0]; exact CBlk.alloc H2.out _
  have g3 : CBlk W0 (w.heap.size + 1 + 1) 26 [(0, 0)] := by rw [← hW0]; exact CBlk.alloc H3.out _
  have g5 : CBlk W0 (w.heap.size + 1 + 1 + 1) 28 bs := by rw [← hW0]; exact CBlk.new' (by simp) rfl
  have g4 : Below w.heap.size w W0 := by rw [← hW0]; exact Below.alloc H4.out (by simp <;> omega) _
  rw [hW0]
  have G1 := Lib.hid g1
  have G2 := Lib.hid g2
  have G3 := Lib.hid g3
  have G4 := Lib.hid g4
  have G5 := Lib.hid g5
  clear hW0 g1 g2 g3 g4 g5 H1 H2 H3 H4
  refine (checkOne_any bs HW.out _ _ ad _ G5.out (HE.out.below G4.out (Nat.le_refl _))).mono ?_
  rintro e w1 ⟨rfl, hb1⟩
  have HB1 : Hid (Below w.heap.size w w1) := G4.out.trans (hb1.mono G4.out.size)
  have K1 : Hid (CBlk w1 w.heap.size 28 bs) := G1.out.below hb1 G1.out.lt
  have K2 : Hid (CBlk w1 (w.heap.size + 1) 28 noB) := G2.out.below hb1 G2.out.lt
  have K3 : Hid (CBlk w1 (w.heap.size + 1 + 1) 26 [(0, 0)]) := G3.out.below hb1 G3.out.lt
  clear hb1 G1 G2 G3 G4 G5
  have hv0 : chkV ad (okC bs) = .nilIface := by rw [hok]; rfl
  rw [hv0]
  clear hv0
  go_wp2_with fail
  refine (checkPlace_any _ ad _ (HE.out.below HB1.out (Nat.le_refl _))).mono ?_
  rintro e w1' ⟨rfl, rfl⟩
  have hv1 : plV ad n = .iface 81 (.pointer (some (ad 0))) := by unfold plV; rw [if_neg hn]; rfl
  rw [hv1]
  clear hv1
  go_wp2_with fail
  have q := new_cell2 w1 (.nilIface) (.iface 81 (.pointer (some (ad 0)))) 49
  obtain ⟨W1, hW1⟩ : ∃ W1, w1.alloc (.cells #[.nilIface, .iface 81 (.pointer (some (ad 0)))] 49) = W1 := ⟨_, rfl⟩
  have g1 : CBlk W1 w.heap.size 28 bs := by rw [← hW1]; exact CBlk.alloc K1.out _
  have g2 : CBlk W1 (w.heap.size + 1) 28 noB := by rw [← hW1]; exact CBlk.alloc K2.out _
  have g3 : CBlk W1 (w.heap.size + 1 + 1) 26 [(0, 0)] := by rw [← hW1]; exact CBlk.alloc K3.out _
  have g4 : Below w.heap.size w W1 := by rw [← hW1]; exact Below.alloc HB1.out HB1.out.size _
  rw [hW1] at q ⊢
  have L1 := Lib.hid g1
  have L2 := Lib.hid g2
  have L3 := Lib.hid g3
  have HB2 := Lib.hid g4
  have Q := Lib.hid q
  clear hW1 g1 g2 g3 g4 q K1 K2 K3 HB1
  refine (first2_second (ad 0) _ _ _ Q.out.1 Q.out.2).mono ?_
  rintro e w2' ⟨rfl, rfl⟩
  clear Q
  go_wp2_with fail
  refine (codeOf_0 ((HE.out.below HB2.out (Nat.le_refl _)).less (by omega))).mono ?_
  rintro e w3' ⟨rfl, rfl⟩
  have K4 : Hid (CBlk (W1.setRow (w.heap.size + 1) (ccells noB).toArray) (w.heap.size + 1 + 1) 26 [(0, 0)]) := L3.out.rowOff (by omega) _
  go_wp2_with (first
    | (refine wpList_store_row rfl 28 (.tmp 4) (.tmp 18) rfl (w.heap.size + 1) (ccells noB).toArray rfl rfl 28 _ L2.out (size_of_crate Tryd.sizeCr _ rfl) rfl (ccells_one _) ?_)
    | (refine wpList_store_row rfl 26 (.tmp 5) (.tmp 19) rfl (w.heap.size + 1 + 1) (ccells [(0, 0)]).toArray rfl rfl 26 _ K4.out (size_of_bot Tryd.sizeBt _) rfl (ccells_one _) ?_))
  exact bodyPost_ret (v := takeV noB (0, 0) 2) (results_cct (v2 := .int .i64 2) rfl _ (by rfl) _ _ _ 28 26 _ _ (0, 0) (0, 0) _ _ rfl rfl ((CBlk.setRow (Y := noB) L2.out).rowOff (by omega) _) (K4.out.setRow (Y := [(0, 0)])) Tryd.underlying28 rfl (size_of_crate Tryd.sizeCr _ rfl) Tryd.underlying26 rfl (size_of_bot Tryd.sizeBt _)) rfl ⟨rfl, Below.setRow (Below.setRow HB2.out _ _ (by omega)) _ _ (by omega)⟩

set_option maxRecDepth 100000 in
set_option maxHeartbeats 1000000 in
theorem implTake_none (bs : List Bot) (hwf : WfC bs) (k : Nat) (hk : k < 12) (x y : Int) (hbk : bs[k]? = some (x, y)) (hok : okC bs = true) (hF : eB (x, y) = true) (ad : Nat → Addr) (w : World) (hE : EW 7 w ad) : Calls Tryd.prog 13 #[.agg (ccells bs).toArray, .int .i64 (k : Int)] w fun e w' => e = .returned (takeV noB (0, 0) 6) ∧ Below w.heap.size w w' := by
  have HW := Lib.hid hwf
  have HE := Lib.hid hE
  clear hwf hE
  have h1 : CBlk (((w.alloc (.cells (ccells bs).toArray 28)).alloc (.cells #[.int .u8 0, .int .i16 0, .int .u8 0, .int .i16 0, .int .u8 0, .int .i16 0, .int .u8 0, .int .i16 0, .int .u8 0, .int .i16 0, .int .u8 0, .int .i16 0, .int .u8 0, .int .i16 0, .int .u8 0, .int .i16 0, .int .u8 0, .int .i16 0, .int .u8 0, .int .i16 0, .int .u8 0, .int .i16 0, .int .u8 0, .int .i16 0] 28)).alloc (.cells #[.int .u8 0, .int .i16 0] 26)) w.heap.size 28 bs := ((CBlk.new w 28 bs).alloc _).alloc _
  have h2 : CBlk (((w.alloc (.cells (ccells bs).toArray 28)).alloc (.cells #[.int .u8 0, .int .i16 0, .int .u8 0, .int .i16 0, .int .u8 0, .int .i16 0, .int .u8 0, .int .i16 0, .int .u8 0, .int .i16 0, .int .u8 0, .int .i16 0, .int .u8 0, .int .i16 0, .int .u8 0, .int .i16 0, .int .u8 0, .int .i16 0, .int .u8 0, .int .i16 0, .int .u8 0, .int .i16 0, .int .u8 0, .int .i16 0] 28)).alloc (.cells #[.int .u8 0, .int .i16 0] 26)) (w.heap.size + 1) 28 noB := by
    refine CBlk.alloc ?_ _
    exact CBlk.new' (by simp) rfl
  have h3 : CBlk (((w.alloc (.cells (ccells bs).toArray 28)).alloc (.cells #[.int .u8 0, .int .i16 0, .int .u8 0, .int .i16 0, .int .u8 0, .int .i16 0, .int .u8 0, .int .i16 0, .int .u8 0, .int .i16 0, .int .u8 0, .int .i16 0, .int .u8 0, .int .i16 0, .int .u8 0, .int .i16 0, .int .u8 0, .int .i16 0, .int .u8 0, .int .i16 0, .int .u8 0, .int .i16 0, .int .u8 0, .int .i16 0] 28)).alloc (.cells #[.int .u8 0, .int .i16 0] 26)) (w.heap.size + 1 + 1) 26 [(0, 0)] := CBlk.new' (by simp) rfl
  have h4 : Below w.heap.size w (((w.alloc (.cells (ccells bs).toArray 28)).alloc (.cells #[.int .u8 0, .int .i16 0, .int .u8 0, .int .i16 0, .int .u8 0, .int .i16 0, .int .u8 0, .int .i16 0, .int .u8 0, .int .i16 0, .int .u8 0, .int .i16 0, .int .u8 0, .int .i16 0, .int .u8 0, .int .i16 0, .int .u8 0, .int .i16 0, .int .u8 0, .int .i16 0, .int .u8 0, .int .i16 0, .int .u8 0, .int .i16 0] 28)).alloc (.cells #[.int .u8 0, .int .i16 0] 26)) := (by repeat (first | exact Below.refl _ _ | refine Below.drew ?_ | refine Below.alloc ?_ (by simp <;> omega) _ | refine Below.setCell ?_ (by simp <;> omega) _))
  have H1 := Lib.hid h1
  have H2 := Lib.hid h2
  have H3 := Lib.hid h3
  have H4 := Lib.hid h4
  clear h1 h2 h3 h4
  go_enter Tryd.func13, Tryd.ntmps13
  go_wp2_with (first
    | (refine wpList_load_row rfl 28 (.tmp 2) rfl w.heap.size rfl 28 _ (0, 0) _ H1.out Tryd.underlying28 rfl (size_of_crate Tryd.sizeCr _ HW.out.1) ?_)
    | (refine wpList_oneCrate rfl 60 28 (.tmp 9) rfl bs HW.out.1 rfl Tryd.underlying60 Tryd.sizeCr Tryd.zeroCr ?_))
  obtain ⟨W0, hW0⟩ : ∃ W0, (((w.alloc (.cells (ccells bs).toArray 28)).alloc (.cells #[.int .u8 0, .int .i16 0, .int .u8 0, .int .i16 0, .int .u8 0, .int .i16 0, .int .u8 0, .int .i16 0, .int .u8 0, .int .i16 0, .int .u8 0, .int .i16 0, .int .u8 0, .int .i16 0, .int .u8 0, .int .i16 0, .int .u8 0, .int .i16 0, .int .u8 0, .int .i16 0, .int .u8 0, .int .i16 0, .int .u8 0, .int .i16 0] 28)).alloc (.cells #[.int .u8 0, .int .i16 0] 26)).alloc (.cells (ccells bs).toArray 28) = W0 := ⟨_, rfl⟩
  have g1 : CBlk W0 w.heap.size 28 bs := by rw [← hW0]; exact CBlk.alloc H1.out _
  have g2 : CBlk W0 (w.heap.size + 1) 28 noB := by rw [← hW0]; exact CBlk.alloc H2.out _
  have g3 : CBlk W0 (w.heap.size + 1 + 1) 26 [(0, 0)] := by rw [← hW0]; exact CBlk.alloc H3.out _
  have g5 : CBlk W0 (w.heap.size + 1 + 1 + 1) 28 bs := by rw [← hW0]; exact CBlk.new' (by simp) rfl
  have g4 : Below w.heap.size w W0 := by rw [← hW0]; exact Below.alloc H4.out (by simp <;> omega) _
  rw [hW0]
  have G1 := Lib.hid g1
  have G2 := Lib.hid g2
  have G3 := Lib.hid g3
  have G4 := Lib.hid g4
  have G5 := Lib.hid g5
  clear hW0 g1 g2 g3 g4 g5 H1 H2 H3 H4
  refine (checkOne_any bs HW.out _ _ ad _ G5.out (HE.out.below G4.out (Nat.le_refl _))).mono ?_
  rintro e w1 ⟨rfl, hb1⟩
  have HB1 : Hid (Below w.heap.size w w1) := G4.out.trans (hb1.mono G4.out.size)
  have K1 : Hid (CBlk w1 w.heap.size 28 bs) := G1.out.below hb1 G1.out.lt
  have K2 : Hid (CBlk w1 (w.heap.size + 1) 28 noB) := G2.out.below hb1 G2.out.lt
  have K3 : Hid (CBlk w1 (w.heap.size + 1 + 1) 26 [(0, 0)]) := G3.out.below hb1 G3.out.lt
  clear hb1 G1 G2 G3 G4 G5
  have hv0 : chkV ad (okC bs) = .nilIface := by rw [hok]; rfl
  rw [hv0]
  clear hv0
  go_wp2_with fail
  refine (checkPlace_any _ ad _ (HE.out.below HB1.out (Nat.le_refl _))).mono ?_
  rintro e w1' ⟨rfl, rfl⟩
  have hv1 : plV ad (k : Int) = .nilIface := by unfold plV; rw [if_pos (by omega)]
  rw [hv1]
  clear hv1
  go_wp2_with fail
  have q := new_cell2 w1 (.nilIface) (.nilIface) 49
  obtain ⟨W1, hW1⟩ : ∃ W1, w1.alloc (.cells #[.nilIface, .nilIface] 49) = W1 := ⟨_, rfl⟩
  have g1 : CBlk W1 w.heap.size 28 bs := by rw [← hW1]; exact CBlk.alloc K1.out _
  have g2 : CBlk W1 (w.heap.size + 1) 28 noB := by rw [← hW1]; exact CBlk.alloc K2.out _
  have g3 : CBlk W1 (w.heap.size + 1 + 1) 26 [(0, 0)] := by rw [← hW1]; exact CBlk.alloc K3.out _
  have g4 : Below w.heap.size w W1 := by rw [← hW1]; exact Below.alloc HB1.out HB1.out.size _
  rw [hW1] at q ⊢
  have L1 := Lib.hid g1
  have L2 := Lib.hid g2
  have L3 := Lib.hid g3
  have HB2 := Lib.hid g4
  have Q := Lib.hid q
  clear hW1 g1 g2 g3 g4 q K1 K2 K3 HB1
  refine (first2_none _ _ _ Q.out.1 Q.out.2).mono ?_
  rintro e w2' ⟨rfl, rfl⟩
  clear Q
  have Hk := Lib.hid hbk
  have e1 := L1.out.kind' hbk
  have e2 := L1.out.year' hbk
  have hl0 : (0 : Int) ≤ k := by omega
  have hl1 : (k : Int) ≤ 11 := by omega
  have hl2 : (k : Int) < 12 := by omega
  clear hbk
  go_wp2_with fail
  refine (isFree_any _ _ _).mono ?_
  rintro e w2 ⟨rfl, hb2⟩
  have q1 : Below W1.heap.size W1 (W1.alloc (.cells #[.int .u8 x, .int .i16 y] 26)) := (Below.refl _ W1).alloc (Nat.le_refl _) _
  have q2 := q1.trans (hb2.mono (by simp))
  have L8 : Hid (w.heap.size + 1 + 1 < W1.heap.size) := L3.out.lt
  have L7 : Hid (CBlk w2 W1.heap.size 26 [(x, y)]) := (show CBlk (W1.alloc (.cells #[.int .u8 x, .int .i16 y] 26)) W1.heap.size 26 [(x, y)] from CBlk.new' rfl rfl).below hb2 (by simp)
  have HBn : Hid (Below w.heap.size w w2) := HB2.out.trans (q2.mono HB2.out.size)
  have L1n : Hid (CBlk w2 w.heap.size 28 bs) := L1.out.below q2 L1.out.lt
  have L2n : Hid (CBlk w2 (w.heap.size + 1) 28 noB) := L2.out.below q2 L2.out.lt
  have L3n : Hid (CBlk w2 (w.heap.size + 1 + 1) 26 [(0, 0)]) := L3.out.below q2 L3.out.lt
  clear hb2 q1 q2 e1 e2 L1 L2 L3 HB2
  have L1 := L1n
  have L2 := L2n
  have L3 := L3n
  have HB2 := HBn
  clear L1n L2n L3n HBn
  rw [hF]
  have c4 : w2.cell? ⟨1, 0, none⟩ = some (.iface 81 (.pointer (some (ad 4)))) := (HE.out.below HB2.out (Nat.le_refl _)).cell 4 (by omega)
  go_wp2_with fail
  refine (codeOf_4 ((HE.out.below HB2.out (Nat.le_refl _)).less (by omega))).mono ?_
  rintro e w3' ⟨rfl, rfl⟩
  clear c4
  have K4 : Hid (CBlk (w2.setRow (w.heap.size + 1) (ccells noB).toArray) (w.heap.size + 1 + 1) 26 [(0, 0)]) := L3.out.rowOff (by omega) _
  go_wp2_with (first
    | (refine wpList_store_row rfl 28 (.tmp 4) (.tmp 27) rfl (w.heap.size + 1) (ccells noB).toArray rfl rfl 28 _ L2.out (size_of_crate Tryd.sizeCr _ rfl) rfl (ccells_one _) ?_)
    | (refine wpList_store_row rfl 26 (.tmp 5) (.tmp 28) rfl (w.heap.size + 1 + 1) (ccells [(0, 0)]).toArray rfl rfl 26 _ K4.out (size_of_bot Tryd.sizeBt _) rfl (ccells_one _) ?_))
  exact bodyPost_ret (v := takeV noB (0, 0) 6) (results_cct (v2 := .int .i64 6) rfl _ (by rfl) _ _ _ 28 26 _ _ (0, 0) (0, 0) _ _ rfl rfl ((CBlk.setRow (Y := noB) L2.out).rowOff (by omega) _) (K4.out.setRow (Y := [(0, 0)])) Tryd.underlying28 rfl (size_of_crate Tryd.sizeCr _ rfl) Tryd.underlying26 rfl (size_of_bot Tryd.sizeBt _)) rfl ⟨rfl, Below.setRow (Below.setRow HB2.out _ _ (by omega)) _ _ (by omega)⟩

set_option maxRecDepth 100000 in
set_option maxHeartbeats 1000000 in
theorem implTake_some (bs : List Bot) (hwf : WfC bs) (k : Nat) (hk : k < 12) (x y : Int) (hbk : bs[k]? = some (x, y)) (hok : okC bs = true) (hF : eB (x, y) = false) (ad : Nat → Addr) (w : World) (hE : EW 7 w ad) : Calls Tryd.prog 13 #[.agg (ccells bs).toArray, .int .i64 (k : Int)] w fun e w' => e = .returned (takeV (bs.set k (0, 0)) (x, y) 0) ∧ Below w.heap.size w w' := by
  have HW := Lib.hid hwf
  have HE := Lib.hid hE
  clear hwf hE
  have h1 : CBlk (((w.alloc (.cells (ccells bs).toArray 28)).alloc (.cells #[.int .u8 0, .int .i16 0, .int .u8 0, .int .i16 0, .int .u8 0, .int .i16 0, .int .u8 0, .int .i16 0, .int .u8 0, .int .i16 0, .int .u8 0, .int .i16 0, .int .u8 0, .int .i16 0, .int .u8 0, .int .i16 0, .int .u8 0, .int .i16 0, .int .u8 0, .int .i16 0, .int .u8 0, .int .i16 0, .int .u8 0, .int .i16 0] 28)).alloc (.cells #[.int .u8 0, .int .i16 0] 26)) w.heap.size 28 bs := ((CBlk.new w 28 bs).alloc _).alloc _
  have h2 : CBlk (((w.alloc (.cells (ccells bs).toArray 28)).alloc (.cells #[.int .u8 0, .int .i16 0, .int .u8 0, .int .i16 0, .int .u8 0, .int .i16 0, .int .u8 0, .int .i16 0, .int .u8 0, .int .i16 0, .int .u8 0, .int .i16 0, .int .u8 0, .int .i16 0, .int .u8 0, .int .i16 0, .int .u8 0, .int .i16 0, .int .u8 0, .int .i16 0, .int .u8 0, .int .i16 0, .int .u8 0, .int .i16 0] 28)).alloc (.cells #[.int .u8 0, .int .i16 0] 26)) (w.heap.size + 1) 28 noB := by
    refine CBlk.alloc ?_ _
    exact CBlk.new' (by simp) rfl
  have h3 : CBlk (((w.alloc (.cells (ccells bs).toArray 28)).alloc (.cells #[.int .u8 0, .int .i16 0, .int .u8 0, .int .i16 0, .int .u8 0, .int .i16 0, .int .u8 0, .int .i16 0, .int .u8 0, .int .i16 0, .int .u8 0, .int .i16 0, .int .u8 0, .int .i16 0, .int .u8 0, .int .i16 0, .int .u8 0, .int .i16 0, .int .u8 0, .int .i16 0, .int .u8 0, .int .i16 0, .int .u8 0, .int .i16 0] 28)).alloc (.cells #[.int .u8 0, .int .i16 0] 26)) (w.heap.size + 1 + 1) 26 [(0, 0)] := CBlk.new' (by simp) rfl
  have h4 : Below w.heap.size w (((w.alloc (.cells (ccells bs).toArray 28)).alloc (.cells #[.int .u8 0, .int .i16 0, .int .u8 0, .int .i16 0, .int .u8 0, .int .i16 0, .int .u8 0, .int .i16 0, .int .u8 0, .int .i16 0, .int .u8 0, .int .i16 0, .int .u8 0, .int .i16 0, .int .u8 0, .int .i16 0, .int .u8 0, .int .i16 0, .int .u8 0, .int .i16 0, .int .u8 0, .int .i16 0, .int .u8 0, .int .i16 0] 28)).alloc (.cells #[.int .u8 0, .int .i16 0] 26)) := (by repeat (first | exact Below.refl _ _ | refine Below.drew ?_ | refine Below.alloc ?_ (by simp <;> omega) _ | refine Below.setCell ?_ (by simp <;> omega) _))
  have H1 := Lib.hid h1
  have H2 := Lib.hid h2
  have H3 := Lib.hid h3
  have H4 := Lib.hid h4
  clear h1 h2 h3 h4
  go_enter Tryd.func13, Tryd.ntmps13
  go_wp2_with (first
    | (refine wpList_load_row rfl 28 (.tmp 2) rfl w.heap.size rfl 28 _ (0, 0) _ H1.out Tryd.underlying28 rfl (size_of_crate Tryd.sizeCr _ HW.out.1) ?_)
    | (refine wpList_oneCrate rfl 60 28 (.tmp 9) rfl bs HW.out.1 rfl Tryd.underlying60 Tryd.sizeCr Tryd.zeroCr ?_))
  obtain ⟨W0, hW0⟩ : ∃ W0, (((w.alloc (.cells (ccells bs).toArray 28)).alloc (.cells #[.int .u8 0, .int .i16 0, .int .u8 0, .int .i16 0, .int .u8 0, .int .i16 0, .int .u8 0, .int .i16 0, .int .u8 0, .int .i16 0, .int .u8 0, .int .i16 0, .int .u8 0, .int .i16 0, .int .u8 0, .int .i16 0, .int .u8 0, .int .i16 0, .int .u8 0, .int .i16 0, .int .u8 0, .int .i16 0, .int .u8 0, .int .i16 0] 28)).alloc (.cells #[.int .u8 0, .int .i16 0] 26)).alloc (.cells (ccells bs).toArray 28) = W0 := ⟨_, rfl⟩
  have g1 : CBlk W0 w.heap.size 28 bs := by rw [← hW0]; exact CBlk.alloc H1.out _
  have g2 : CBlk W0 (w.heap.size + 1) 28 noB := by rw [← hW0]; exact CBlk.alloc H2.out _
  have g3 : CBlk W0 (w.heap.size + 1 + 1) 26 [(0, 0)] := by rw [← hW0]; exact CBlk.alloc H3.out _
  have g5 : CBlk W0 (w.heap.size + 1 + 1 + 1) 28 bs := by rw [← hW0]; exact CBlk.new' (by simp) rfl
  have g4 : Below w.heap.size w W0 := by rw [← hW0]; exact Below.alloc H4.out (by simp <;> omega) _
  rw [hW0]
  have G1 := Lib.hid g1
  have G2 := Lib.hid g2
  have G3 := Lib.hid g3
  have G4 := Lib.hid g4
  have G5 := Lib.hid g5
  clear hW0 g1 g2 g3 g4 g5 H1 H2 H3 H4
  refine (checkOne_any bs HW.out _ _ ad _ G5.out (HE.out.below G4.out (Nat.le_refl _))).mono ?_
  rintro e w1 ⟨rfl, hb1⟩
  have HB1 : Hid (Below w.heap.size w w1) := G4.out.trans (hb1.mono G4.out.size)
  have K1 : Hid (CBlk w1 w.heap.size 28 bs) := G1.out.below hb1 G1.out.lt
  have K2 : Hid (CBlk w1 (w.heap.size + 1) 28 noB) := G2.out.below hb1 G2.out.lt
  have K3 : Hid (CBlk w1 (w.heap.size + 1 + 1) 26 [(0, 0)]) := G3.out.below hb1 G3.out.lt
  clear hb1 G1 G2 G3 G4 G5
  have hv0 : chkV ad (okC bs) = .nilIface := by rw [hok]; rfl
  rw [hv0]
  clear hv0
  go_wp2_with fail
  refine (checkPlace_any _ ad _ (HE.out.below HB1.out (Nat.le_refl _))).mono ?_
  rintro e w1' ⟨rfl, rfl⟩
  have hv1 : plV ad (k : Int) = .nilIface := by unfold plV; rw [if_pos (by omega)]
  rw [hv1]
  clear hv1
  go_wp2_with fail
  have q := new_cell2 w1 (.nilIface) (.nilIface) 49
  obtain ⟨W1, hW1⟩ : ∃ W1, w1.alloc (.cells #[.nilIface, .nilIface] 49) = W1 := ⟨_, rfl⟩
  have g1 : CBlk W1 w.heap.size 28 bs := by rw [← hW1]; exact CBlk.alloc K1.out _
  have g2 : CBlk W1 (w.heap.size + 1) 28 noB := by rw [← hW1]; exact CBlk.alloc K2.out _
  have g3 : CBlk W1 (w.heap.size + 1 + 1) 26 [(0, 0)] := by rw [← hW1]; exact CBlk.alloc K3.out _
  have g4 : Below w.heap.size w W1 := by rw [← hW1]; exact Below.alloc HB1.out HB1.out.size _
  rw [hW1] at q ⊢
  have L1 := Lib.hid g1
  have L2 := Lib.hid g2
  have L3 := Lib.hid g3
  have HB2 := Lib.hid g4
  have Q := Lib.hid q
  clear hW1 g1 g2 g3 g4 q K1 K2 K3 HB1
  refine (first2_none _ _ _ Q.out.1 Q.out.2).mono ?_
  rintro e w2' ⟨rfl, rfl⟩
  clear Q
  have Hk := Lib.hid hbk
  have e1 := L1.out.kind' hbk
  have e2 := L1.out.year' hbk
  have hl0 : (0 : Int) ≤ k := by omega
  have hl1 : (k : Int) ≤ 11 := by omega
  have hl2 : (k : Int) < 12 := by omega
  clear hbk
  go_wp2_with fail
  refine (isFree_any _ _ _).mono ?_
  rintro e w2 ⟨rfl, hb2⟩
  have q1 : Below W1.heap.size W1 (W1.alloc (.cells #[.int .u8 x, .int .i16 y] 26)) := (Below.refl _ W1).alloc (Nat.le_refl _) _
  have q2 := q1.trans (hb2.mono (by simp))
  have L8 : Hid (w.heap.size + 1 + 1 < W1.heap.size) := L3.out.lt
  have L7 : Hid (CBlk w2 W1.heap.size 26 [(x, y)]) := (show CBlk (W1.alloc (.cells #[.int .u8 x, .int .i16 y] 26)) W1.heap.size 26 [(x, y)] from CBlk.new' rfl rfl).below hb2 (by simp)
  have HBn : Hid (Below w.heap.size w w2) := HB2.out.trans (q2.mono HB2.out.size)
  have L1n : Hid (CBlk w2 w.heap.size 28 bs) := L1.out.below q2 L1.out.lt
  have L2n : Hid (CBlk w2 (w.heap.size + 1) 28 noB) := L2.out.below q2 L2.out.lt
  have L3n : Hid (CBlk w2 (w.heap.size + 1 + 1) 26 [(0, 0)]) := L3.out.below q2 L3.out.lt
  clear hb2 q1 q2 e1 e2 L1 L2 L3 HB2
  have L1 := L1n
  have L2 := L2n
  have L3 := L3n
  have HB2 := HBn
  clear L1n L2n L3n HBn
  rw [hF]
  have e1 := L1.out.kind' Hk.out
  have e2 := L1.out.year' Hk.out
  have f1 := L1.out.frozen (k * 2)
  have f2 := L1.out.frozen (k * 2 + 1)
  have M0 : Hid (CBlk ((w2.setCell ⟨w.heap.size, k * 2, none⟩ (.int .u8 0)).setCell ⟨w.heap.size, k * 2 + 1, none⟩ (.int .i16 0)) w.heap.size 28 (bs.set k (0, 0))) := CBlk.set L1.out k (by rw [HW.out.1]; exact hk) (0, 0)
  have M2 : Hid (CBlk ((w2.setCell ⟨w.heap.size, k * 2, none⟩ (.int .u8 0)).setCell ⟨w.heap.size, k * 2 + 1, none⟩ (.int .i16 0)) (w.heap.size + 1) 28 noB) := (L2.out.other (by omega) _ _).other (by omega) _ _
  have M3 : Hid (CBlk ((w2.setCell ⟨w.heap.size, k * 2, none⟩ (.int .u8 0)).setCell ⟨w.heap.size, k * 2 + 1, none⟩ (.int .i16 0)) (w.heap.size + 1 + 1) 26 [(0, 0)]) := (L3.out.other (by omega) _ _).other (by omega) _ _
  have M7 : Hid (CBlk ((w2.setCell ⟨w.heap.size, k * 2, none⟩ (.int .u8 0)).setCell ⟨w.heap.size, k * 2 + 1, none⟩ (.int .i16 0)) W1.heap.size 26 [(x, y)]) := (L7.out.other (by have := L8.out; omega) _ _).other (by have := L8.out; omega) _ _
  have MB : Hid (Below w.heap.size w ((w2.setCell ⟨w.heap.size, k * 2, none⟩ (.int .u8 0)).setCell ⟨w.heap.size, k * 2 + 1, none⟩ (.int .i16 0))) := (HB2.out.setCell (p := ⟨w.heap.size, k * 2, none⟩) (Nat.le_refl _) _).setCell (p := ⟨w.heap.size, k * 2 + 1, none⟩) (Nat.le_refl _) _
  have HY : Hid ((bs.set k (0, 0)).length = 12) := by show (bs.set k (0, 0)).length = 12; rw [List.length_set]; exact HW.out.1
  go_wp2
  obtain ⟨W5, hW5⟩ : ∃ W5, ((w2.setCell ⟨w.heap.size, k * 2, none⟩ (.int .u8 0)).setCell ⟨w.heap.size, k * 2 + 1, none⟩ (.int .i16 0)) = W5 := ⟨_, rfl⟩
  obtain ⟨Y, hY⟩ : ∃ Y, bs.set k (0, 0) = Y := ⟨_, rfl⟩
  rw [hW5] at M0 M2 M3 M7 MB ⊢
  rw [hY] at M0 HY
  have HYe := Lib.hid hY
  clear hW5 hY e1 e2 f1 f2 L1 L2 L3 L7 HB2
  have N7 : Hid (CBlk (W5.setRow (w.heap.size + 1) (ccells Y).toArray) W1.heap.size 26 [(x, y)]) := M7.out.rowOff (by have := L8.out; omega) _
  have N3 : Hid (CBlk (W5.setRow (w.heap.size + 1) (ccells Y).toArray) (w.heap.size + 1 + 1) 26 [(0, 0)]) := M3.out.rowOff (by omega) _
  refine wp_region_any (by kernel_rfl) ?_
  change wpAny _ _ _ _ _ _ _ (World.drew _)
  rename_i K0 hKK
  have D0 : CBlk W5.drew w.heap.size 28 Y := M0.out
  have D2 : CBlk W5.drew (w.heap.size + 1) 28 noB := M2.out
  have D7 : CBlk W5.drew W1.heap.size 26 [(x, y)] := M7.out
  have E7 : CBlk (W5.drew.setRow (w.heap.size + 1) (ccells Y).toArray) W1.heap.size 26 [(x, y)] := N7.out
  have E3 : CBlk (W5.drew.setRow (w.heap.size + 1) (ccells Y).toArray) (w.heap.size + 1 + 1) 26 [(0, 0)] := N3.out
  refine wpAny_ready (rs := [0, 1]) (by kernel_rfl) (by simp) ?_
  refine AllReady.cons rfl (fun K hK => ?_) ?_
  · refine if_wanted rfl (wp_load_row 28 (.tmp 2) rfl w.heap.size rfl 28 _ (0, 0) _ D0 Tryd.underlying28 rfl (size_of_crate Tryd.sizeCr _ HY.out) ?_)
    refine hK _ _ ?_
    clear hK K
    refine wpAny_ready (rs := [1, 2]) (by kernel_rfl) (by simp) ?_
    refine AllReady.cons rfl (fun K hK => ?_) ?_
    · refine if_wanted rfl (wp_load_row 26 (.tmp 8) rfl W1.heap.size rfl 26 _ (0, 0) _ D7 Tryd.underlying26 rfl (size_of_bot Tryd.sizeBt _) ?_)
      refine hK _ _ ?_
      clear hK K
      refine wpAny_ready (rs := [2]) (by kernel_rfl) (by simp) ?_
      refine AllReady.cons rfl (fun K hK => ?_) AllReady.nil
      refine if_wanted rfl (wp_store_row 28 (.tmp 4) (.tmp 34) rfl (w.heap.size + 1) (ccells Y).toArray rfl rfl 28 _ D2 (size_of_crate Tryd.sizeCr _ HY.out) (by show (ccells noB).toArray.size = _; rw [ccells_size _ HY.out]; rfl) (ccells_one _) ?_)
      refine hK _ _ ?_
      clear hK K
      refine wpAny_ready (rs := [3]) (by kernel_rfl) (by simp) ?_
      refine AllReady.cons rfl (fun K hK => ?_) AllReady.nil
      refine if_wanted rfl (wp_store_row 26 (.tmp 5) (.tmp 35) rfl (w.heap.size + 1 + 1) (ccells [(x, y)]).toArray rfl rfl 26 _ E3 (size_of_bot Tryd.sizeBt _) rfl (ccells_one _) ?_)
      refine hK _ _ ?_
      clear hK K
      refine wpAny_ready (rs := [4]) (by kernel_rfl) (by simp) ?_
      refine AllReady.cons rfl (fun K hK => ?_) AllReady.nil
      refine if_wanted rfl ?_
      refine wp_assign0 rfl rfl ?_
      refine hK _ _ ?_
      clear hK K
      refine wpAny_done (by kernel_rfl) ?_ _
      refine hKK _ _ ?_
      exact wp_ret (bodyPost_ret (v := takeV Y (x, y) 0) (results_cct (v2 := .int .i64 0) rfl _ (by rfl) _ _ _ 28 26 _ _ (0, 0) (0, 0) _ _ rfl rfl ((CBlk.setRow (Y := Y) D2).rowOff (by omega) _) (E3.setRow (Y := [(x, y)])) Tryd.underlying28 rfl (size_of_crate Tryd.sizeCr _ HY.out) Tryd.underlying26 rfl (size_of_bot Tryd.sizeBt _)) rfl ⟨by rw [HYe.out], Below.setRow (Below.setRow (MB.out.drew) _ _ (by omega)) _ _ (by omega)⟩)
    refine AllReady.cons rfl (fun K hK => ?_) AllReady.nil
    · refine if_wanted rfl (wp_store_row 28 (.tmp 4) (.tmp 34) rfl (w.heap.size + 1) (ccells Y).toArray rfl rfl 28 _ D2 (size_of_crate Tryd.sizeCr _ HY.out) (by show (ccells noB).toArray.size = _; rw [ccells_size _ HY.out]; rfl) (ccells_one _) ?_)
      refine hK _ _ ?_
      clear hK K
      refine wpAny_ready (rs := [1]) (by kernel_rfl) (by simp) ?_
      refine AllReady.cons rfl (fun K hK => ?_) AllReady.nil
      refine if_wanted rfl (wp_load_row 26 (.tmp 8) rfl W1.heap.size rfl 26 _ (0, 0) _ E7 Tryd.underlying26 rfl (size_of_bot Tryd.sizeBt _) ?_)
      refine hK _ _ ?_
      clear hK K
      refine wpAny_ready (rs := [3]) (by kernel_rfl) (by simp) ?_
      refine AllReady.cons rfl (fun K hK => ?_) AllReady.nil
      refine if_wanted rfl (wp_store_row 26 (.tmp 5) (.tmp 35) rfl (w.heap.size + 1 + 1) (ccells [(x, y)]).toArray rfl rfl 26 _ E3 (size_of_bot Tryd.sizeBt _) rfl (ccells_one _) ?_)
      refine hK _ _ ?_
      clear hK K
      refine wpAny_ready (rs := [4]) (by kernel_rfl) (by simp) ?_
      refine AllReady.cons rfl (fun K hK => ?_) AllReady.nil
      refine if_wanted rfl ?_
      refine wp_assign0 rfl rfl ?_
      refine hK _ _ ?_
      clear hK K
      refine wpAny_done (by kernel_rfl) ?_ _
      refine hKK _ _ ?_
      exact wp_ret (bodyPost_ret (v := takeV Y (x, y) 0) (results_cct (v2 := .int .i64 0) rfl _ (by rfl) _ _ _ 28 26 _ _ (0, 0) (0, 0) _ _ rfl rfl ((CBlk.setRow (Y := Y) D2).rowOff (by omega) _) (E3.setRow (Y := [(x, y)])) Tryd.underlying28 rfl (size_of_crate Tryd.sizeCr _ HY.out) Tryd.underlying26 rfl (size_of_bot Tryd.sizeBt _)) rfl ⟨by rw [HYe.out], Below.setRow (Below.setRow (MB.out.drew) _ _ (by omega)) _ _ (by omega)⟩)
  refine AllReady.cons rfl (fun K hK => ?_) AllReady.nil
  · refine if_wanted rfl (wp_load_row 26 (.tmp 8) rfl W1.heap.size rfl 26 _ (0, 0) _ D7 Tryd.underlying26 rfl (size_of_bot Tryd.sizeBt _) ?_)
    refine hK _ _ ?_
    clear hK K
    refine wpAny_ready (rs := [0]) (by kernel_rfl) (by simp) ?_
    refine AllReady.cons rfl (fun K hK => ?_) AllReady.nil
    refine if_wanted rfl (wp_load_row 28 (.tmp 2) rfl w.heap.size rfl 28 _ (0, 0) _ D0 Tryd.underlying28 rfl (size_of_crate Tryd.sizeCr _ HY.out) ?_)
    refine hK _ _ ?_
    clear hK K
    refine wpAny_ready (rs := [2]) (by kernel_rfl) (by simp) ?_
    refine AllReady.cons rfl (fun K hK => ?_) AllReady.nil
    refine if_wanted rfl (wp_store_row 28 (.tmp 4) (.tmp 34) rfl (w.heap.size + 1) (ccells Y).toArray rfl rfl 28 _ D2 (size_of_crate Tryd.sizeCr _ HY.out) (by show (ccells noB).toArray.size = _; rw [ccells_size _ HY.out]; rfl) (ccells_one _) ?_)
    refine hK _ _ ?_
    clear hK K
    refine wpAny_ready (rs := [3]) (by kernel_rfl) (by simp) ?_
    refine AllReady.cons rfl (fun K hK => ?_) AllReady.nil
    refine if_wanted rfl (wp_store_row 26 (.tmp 5) (.tmp 35) rfl (w.heap.size + 1 + 1) (ccells [(x, y)]).toArray rfl rfl 26 _ E3 (size_of_bot Tryd.sizeBt _) rfl (ccells_one _) ?_)
    refine hK _ _ ?_
    clear hK K
    refine wpAny_ready (rs := [4]) (by kernel_rfl) (by simp) ?_
    refine AllReady.cons rfl (fun K hK => ?_) AllReady.nil
    refine if_wanted rfl ?_
    refine wp_assign0 rfl rfl ?_
    refine hK _ _ ?_
    clear hK K
    refine wpAny_done (by kernel_rfl) ?_ _
    refine hKK _ _ ?_
    exact wp_ret (bodyPost_ret (v := takeV Y (x, y) 0) (results_cct (v2 := .int .i64 0) rfl _ (by rfl) _ _ _ 28 26 _ _ (0, 0) (0, 0) _ _ rfl rfl ((CBlk.setRow (Y := Y) D2).rowOff (by omega) _) (E3.setRow (Y := [(x, y)])) Tryd.underlying28 rfl (size_of_crate Tryd.sizeCr _ HY.out) Tryd.underlying26 rfl (size_of_bot Tryd.sizeBt _)) rfl ⟨by rw [HYe.out], Below.setRow (Below.setRow (MB.out.drew) _ _ (by omega)) _ _ (by omega)⟩)
end Go.Proofs.YtjiihdljchaeiadDoor
