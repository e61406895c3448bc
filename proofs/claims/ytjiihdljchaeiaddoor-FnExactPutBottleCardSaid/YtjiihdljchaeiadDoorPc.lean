/-
  The contracts of the program's PutBottle. Condition: the sentinel errors lie as the row lists them.
-/
import Derived.Test.YtjiihdljchaeiadDoorPb
namespace Go.Proofs.YtjiihdljchaeiadDoor
open Go.ChangeShapes Go.WideShapes Go.ChangeAt Go.RowKit Go.Deep

set_option maxRecDepth 100000 in
set_option maxHeartbeats 1000000 in
theorem implPut_bad000 (bs : List Bot) (hwf : WfC bs) (n : Int) (p q : Int)  (hok : okC bs = false) (hv : vB (p, q) = false) (hn : ¬ (0 ≤ n ∧ n < 12)) (ad : Nat → Addr) (w : World) (hE : EW 7 w ad) : Calls Tryd.prog 10 #[.agg (ccells bs).toArray, .int .i64 n, .agg #[.int .u8 p, .int .i16 q]] w fun e w' => e = .returned (putV noB 1) ∧ Below w.heap.size w w' := by
  have HW := Lib.hid hwf
  have HE := Lib.hid hE
  clear hwf hE
  have h1 : CBlk (((w.alloc (.cells (ccells bs).toArray 28)).alloc (.cells #[.int .u8 p, .int .i16 q] 26)).alloc (.cells #[.int .u8 0, .int .i16 0, .int .u8 0, .int .i16 0, .int .u8 0, .int .i16 0, .int .u8 0, .int .i16 0, .int .u8 0, .int .i16 0, .int .u8 0, .int .i16 0, .int .u8 0, .int .i16 0, .int .u8 0, .int .i16 0, .int .u8 0, .int .i16 0, .int .u8 0, .int .i16 0, .int .u8 0, .int .i16 0, .int .u8 0, .int .i16 0] 28)) w.heap.size 28 bs := ((CBlk.new w 28 bs).alloc _).alloc _
  have h3 : CBlk (((w.alloc (.cells (ccells bs).toArray 28)).alloc (.cells #[.int .u8 p, .int .i16 q] 26)).alloc (.cells #[.int .u8 0, .int .i16 0, .int .u8 0, .int .i16 0, .int .u8 0, .int .i16 0, .int .u8 0, .int .i16 0, .int .u8 0, .int .i16 0, .int .u8 0, .int .i16 0, .int .u8 0, .int .i16 0, .int .u8 0, .int .i16 0, .int .u8 0, .int .i16 0, .int .u8 0, .int .i16 0, .int .u8 0, .int .i16 0, .int .u8 0, .int .i16 0] 28)) (w.heap.size + 1) 26 [(p, q)] := by
    refine CBlk.alloc ?_ _
    exact CBlk.new' (by simp) rfl
  have h2 : CBlk (((w.alloc (.cells (ccells bs).toArray 28)).alloc (.cells #[.int .u8 p, .int .i16 q] 26)).alloc (.cells #[.int .u8 0, .int .i16 0, .int .u8 0, .int .i16 0, .int .u8 0, .int .i16 0, .int .u8 0, .int .i16 0, .int .u8 0, .int .i16 0, .int .u8 0, .int .i16 0, .int .u8 0, .int .i16 0, .int .u8 0, .int .i16 0, .int .u8 0, .int .i16 0, .int .u8 0, .int .i16 0, .int .u8 0, .int .i16 0, .int .u8 0, .int .i16 0] 28)) (w.heap.size + 1 + 1) 28 noB := CBlk.new' (by simp) rfl
  have h4 : Below w.heap.size w (((w.alloc (.cells (ccells bs).toArray 28)).alloc (.cells #[.int .u8 p, .int .i16 q] 26)).alloc (.cells #[.int .u8 0, .int .i16 0, .int .u8 0, .int .i16 0, .int .u8 0, .int .i16 0, .int .u8 0, .int .i16 0, .int .u8 0, .int .i16 0, .int .u8 0, .int .i16 0, .int .u8 0, .int .i16 0, .int .u8 0, .int .i16 0, .int .u8 0, .int .i16 0, .int .u8 0, .int .i16 0, .int .u8 0, .int .i16 0, .int .u8 0, .int .i16 0] 28)) := (by repeat (first | exact Below.refl _ _ | refine Below.drew ?_ | refine Below.alloc ?_ (by simp <;> omega) _ | refine Below.setCell ?_ (by simp <;> omega) _))
  go_enter Tryd.func10, Tryd.ntmps10
  go_wp2_with fail
  obtain ⟨W0, hW0⟩ : ∃ W0, (((w.alloc (.cells (ccells bs).toArray 28)).alloc (.cells #[.int .u8 p, .int .i16 q] 26)).alloc (.cells #[.int .u8 0, .int .i16 0, .int .u8 0, .int .i16 0, .int .u8 0, .int .i16 0, .int .u8 0, .int .i16 0, .int .u8 0, .int .i16 0, .int .u8 0, .int .i16 0, .int .u8 0, .int .i16 0, .int .u8 0, .int .i16 0, .int .u8 0, .int .i16 0, .int .u8 0, .int .i16 0, .int .u8 0, .int .i16 0, .int .u8 0, .int .i16 0] 28)) = W0 := ⟨_, rfl⟩
  rw [hW0] at h1 h2 h3 h4 ⊢
  clear hW0
  have G1 := Lib.hid h1
  have G2 := Lib.hid h2
  have G3 := Lib.hid h3
  have G4 := Lib.hid h4
  have hv0 : chkV ad (okC bs) = .iface 81 (.pointer (some (ad 5))) := by rw [hok]; rfl
  have hv1 : btV ad (p, q) = .iface 81 (.pointer (some (ad 5))) := by unfold btV; rw [hv]; rfl
  have hv2 : plV ad n = .iface 81 (.pointer (some (ad 0))) := by unfold plV; rw [if_neg (by omega)]; rfl
  have V0 := Lib.hid hv0
  have V1 := Lib.hid hv1
  have V2 := Lib.hid hv2
  clear h1 h2 h3 h4 hv0 hv1 hv2 hok hv
  refine wp_region_held_drew (S := fun w' => Below W0.heap.size W0 w') (by kernel_rfl) (Below.refl _ _).drew (fun hHeld => ?_)
  refine wpAnyH_take (i := 5) (v := .int .i64 n) rfl (by kernel_rfl) (by kernel_rfl) (by kernel_rfl) (fun _ _ _ h => h) (Or.inl ⟨by rfl, fun w _ => by go_simp⟩) (by assumption) ?_
  refine' wpAnyH_take (i := 0) (v := _) rfl (by kernel_rfl) (by kernel_rfl) (by kernel_rfl) (fun _ _ _ h => h) (yieldsIf_load_mid (by rfl) 28 (.tmp 3) rfl w.heap.size 0 rfl (ccells bs) _ (fun w h => CBlk.range (G1.out.below h G1.out.lt)) Tryd.underlying28 rfl (size_of_crate Tryd.sizeCr _ HW.out.1)) (by assumption) ?_
  refine' wpAnyH_take (i := 3) (v := _) rfl (by kernel_rfl) (by kernel_rfl) (by kernel_rfl) (fun _ _ _ h => h) (yieldsIf_load_mid (by rfl) 26 (.tmp 5) rfl (w.heap.size + 1) 0 rfl [.int .u8 p, .int .i16 q] _ (fun w h => CBlk.range (X := [(p, q)]) (G3.out.below h G3.out.lt)) Tryd.underlying26 rfl (size_of_bot Tryd.sizeBt (p, q))) (by assumption) ?_
  refine wpAnyH_ready (rs := [1]) (by kernel_rfl) (by simp) ?_
  refine AllReadyH.cons rfl (fun K hK => ?_) AllReadyH.nil
  refine if_wanted rfl (wp_oneCrate 60 28 (.tmp 9) rfl bs HW.out.1 rfl Tryd.underlying60 Tryd.sizeCr Tryd.zeroCr ?_)
  refine hK.out _ _ (hHeld.alloc hHeld.size _) (fun hHeld => ?_)
  clear hK K
  refine wpAnyH_ready (rs := [2]) (by kernel_rfl) (by simp) ?_
  refine AllReadyH.cons rfl (fun K hK => ?_) AllReadyH.nil
  refine if_wanted rfl ?_
  go_simp
  have hA : Below W0.heap.size W0 (W0.alloc (.cells (ccells bs).toArray 28)).drew := ((Below.refl _ W0).alloc (Nat.le_refl _) _).drew
  refine (checkOne_any bs HW.out W0.heap.size _ ad (W0.alloc (.cells (ccells bs).toArray 28)).drew (CBlk.new W0 28 bs) (HE.out.below (G4.out.trans (hA.mono G4.out.size)) (Nat.le_refl _))).mono ?_
  rintro e w1 ⟨rfl, hb1⟩
  have hB1 : Below W0.heap.size W0 w1 := hA.trans (hb1.mono hA.size)
  have B1 := Lib.hid hB1
  clear hA hb1 hHeld
  dsimp only
  rw [V0.out]
  refine hK.out _ _ hB1 (fun hHeld => ?_)
  clear hK K
  refine wpAnyH_ready (rs := [4]) (by kernel_rfl) (by simp) ?_
  refine AllReadyH.cons rfl (fun K hK => ?_) AllReadyH.nil
  refine if_wanted rfl ?_
  go_simp
  refine (checkBottle_any p q ad _ (HE.out.below (G4.out.trans (B1.out.mono G4.out.size)) (Nat.le_refl _))).mono ?_
  rintro e w2 ⟨rfl, hb2⟩
  have hB2 : Below W0.heap.size W0 w2 := B1.out.trans (hb2.mono B1.out.size)
  have B2 := Lib.hid hB2
  clear hB1 hb2 hHeld
  dsimp only
  rw [V1.out]
  refine hK.out _ _ hB2 (fun hHeld => ?_)
  clear hK K
  refine wpAnyH_ready (rs := [6]) (by kernel_rfl) (by simp) ?_
  refine AllReadyH.cons rfl (fun K hK => ?_) AllReadyH.nil
  refine if_wanted rfl ?_
  go_simp
  refine (checkPlace_any _ ad _ (HE.out.below (G4.out.trans (B2.out.mono G4.out.size)) (Nat.le_refl _))).mono ?_
  rintro e w2' ⟨rfl, rfl⟩
  dsimp only
  rw [V2.out]
  refine hK.out _ _ hB2 (fun hHeld => ?_)
  clear hK K
  refine wpAnyH_ready (rs := [7]) (by kernel_rfl) (by simp) ?_
  refine AllReadyH.cons rfl (fun K hK => ?_) AllReadyH.nil
  refine if_wanted rfl ?_
  go_simp
  refine hK.out _ _ (B2.out.alloc B2.out.size _) (fun hHeld => ?_)
  clear hK K
  have q0 := new_cell3 w2 (.iface 81 (.pointer (some (ad 5)))) (.iface 81 (.pointer (some (ad 5)))) (.iface 81 (.pointer (some (ad 0)))) 49
  obtain ⟨W1, hW1⟩ : ∃ W1, w2.alloc (.cells #[.iface 81 (.pointer (some (ad 5))), .iface 81 (.pointer (some (ad 5))), .iface 81 (.pointer (some (ad 0)))] 49) = W1 := ⟨_, rfl⟩
  rw [hW1] at q0 hHeld ⊢
  have Q := Lib.hid q0
  have B3 := Lib.hid hHeld
  have L1 : Hid (CBlk W1 w.heap.size 28 bs) := G1.out.below hHeld G1.out.lt
  have L2 : Hid (CBlk W1 (w.heap.size + 1 + 1) 28 noB) := G2.out.below hHeld G2.out.lt
  have L3 : Hid (CBlk W1 (w.heap.size + 1) 26 [(p, q)]) := G3.out.below hHeld G3.out.lt
  have HB2 : Hid (Below w.heap.size w W1) := G4.out.trans (hHeld.mono G4.out.size)
  clear q0 hW1 hB2 B1 B2 G1 G2 G3 G4 V0 V1 V2
  refine wpAnyH_ready (rs := [8]) (by kernel_rfl) (by simp) ?_
  refine AllReadyH.cons rfl (fun K hK => ?_) AllReadyH.nil
  refine if_wanted rfl ?_
  go_simp
  refine (first3_0 (ad 5) _ _ _ Q.out.1).mono ?_
  rintro e w3' ⟨rfl, rfl⟩
  dsimp only
  refine hK.out _ _ B3.out (fun hHeld => ?_)
  clear hK K
  refine wpAnyH_ready (rs := [9]) (by kernel_rfl) (by simp) ?_
  refine AllReadyH.cons rfl (fun K hK => ?_) AllReadyH.nil
  refine if_wanted rfl ?_
  refine wp_assign0 rfl rfl ?_
  refine hK.out _ _ B3.out (fun hHeld => ?_)
  clear hK K
  refine wpAnyH_done (by kernel_rfl) ?_ _
  clear Q B3 hHeld
  go_wp2_with fail
  refine (codeOf_5 (HE.out.below HB2.out (Nat.le_refl _))).mono ?_
  rintro e w3' ⟨rfl, rfl⟩
  go_wp2_with (refine wpList_store_row rfl 28 (.tmp 6) (.tmp 20) rfl (w.heap.size + 1 + 1) (ccells noB).toArray rfl rfl 28 _ L2.out (size_of_crate Tryd.sizeCr _ rfl) rfl (ccells_one _) ?_)
  exact bodyPost_ret (v := putV noB 1) (results_ct2 (v2 := .int .i64 1) rfl _ (by rfl) _ _ 28 _ (0, 0) _ rfl (CBlk.setRow (Y := noB) L2.out) Tryd.underlying28 rfl (size_of_crate Tryd.sizeCr _ rfl)) rfl ⟨rfl, Below.setRow HB2.out _ _ (by omega)⟩

set_option maxRecDepth 100000 in
set_option maxHeartbeats 1000000 in
theorem implPut_bad001 (bs : List Bot) (hwf : WfC bs) (n : Int) (p q : Int)  (hok : okC bs = false) (hv : vB (p, q) = false) (hn : 0 ≤ n ∧ n < 12) (ad : Nat → Addr) (w : World) (hE : EW 7 w ad) : Calls Tryd.prog 10 #[.agg (ccells bs).toArray, .int .i64 n, .agg #[.int .u8 p, .int .i16 q]] w fun e w' => e = .returned (putV noB 1) ∧ Below w.heap.size w w' := by
  have HW := Lib.hid hwf
  have HE := Lib.hid hE
  clear hwf hE
  have h1 : CBlk (((w.alloc (.cells (ccells bs).toArray 28)).alloc (.cells #[.int .u8 p, .int .i16 q] 26)).alloc (.cells #[.int .u8 0, .int .i16 0, .int .u8 0, .int .i16 0, .int .u8 0, .int .i16 0, .int .u8 0, .int .i16 0, .int .u8 0, .int .i16 0, .int .u8 0, .int .i16 0, .int .u8 0, .int .i16 0, .int .u8 0, .int .i16 0, .int .u8 0, .int .i16 0, .int .u8 0, .int .i16 0, .int .u8 0, .int .i16 0, .int .u8 0, .int .i16 0] 28)) w.heap.size 28 bs := ((CBlk.new w 28 bs).alloc _).alloc _
  have h3 : CBlk (((w.alloc (.cells (ccells bs).toArray 28)).alloc (.cells #[.int .u8 p, .int .i16 q] 26)).alloc (.cells #[.int .u8 0, .int .i16 0, .int .u8 0, .int .i16 0, .int .u8 0, .int .i16 0, .int .u8 0, .int .i16 0, .int .u8 0, .int .i16 0, .int .u8 0, .int .i16 0, .int .u8 0, .int .i16 0, .int .u8 0, .int .i16 0, .int .u8 0, .int .i16 0, .int .u8 0, .int .i16 0, .int .u8 0, .int .i16 0, .int .u8 0, .int .i16 0] 28)) (w.heap.size + 1) 26 [(p, q)] := by
    refine CBlk.alloc ?_ _
    exact CBlk.new' (by simp) rfl
  have h2 : CBlk (((w.alloc (.cells (ccells bs).toArray 28)).alloc (.cells #[.int .u8 p, .int .i16 q] 26)).alloc (.cells #[.int .u8 0, .int .i16 0, .int .u8 0, .int .i16 0, .int .u8 0, .int .i16 0, .int .u8 0, .int .i16 0, .int .u8 0, .int .i16 0, .int .u8 0, .int .i16 0, .int .u8 0, .int .i16 0, .int .u8 0, .int .i16 0, .int .u8 0, .int .i16 0, .int .u8 0, .int .i16 0, .int .u8 0, .int .i16 0, .int .u8 0, .int .i16 0] 28)) (w.heap.size + 1 + 1) 28 noB := CBlk.new' (by simp) rfl
  have h4 : Below w.heap.size w (((w.alloc (.cells (ccells bs).toArray 28)).alloc (.cells #[.int .u8 p, .int .i16 q] 26)).alloc (.cells #[.int .u8 0, .int .i16 0, .int .u8 0, .int .i16 0, .int .u8 0, .int .i16 0, .int .u8 0, .int .i16 0, .int .u8 0, .int .i16 0, .int .u8 0, .int .i16 0, .int .u8 0, .int .i16 0, .int .u8 0, .int .i16 0, .int .u8 0, .int .i16 0, .int .u8 0, .int .i16 0, .int .u8 0, .int .i16 0, .int .u8 0, .int .i16 0] 28)) := (by repeat (first | exact Below.refl _ _ | refine Below.drew ?_ | refine Below.alloc ?_ (by simp <;> omega) _ | refine Below.setCell ?_ (by simp <;> omega) _))
  go_enter Tryd.func10, Tryd.ntmps10
  go_wp2_with fail
  obtain ⟨W0, hW0⟩ : ∃ W0, (((w.alloc (.cells (ccells bs).toArray 28)).alloc (.cells #[.int .u8 p, .int .i16 q] 26)).alloc (.cells #[.int .u8 0, .int .i16 0, .int .u8 0, .int .i16 0, .int .u8 0, .int .i16 0, .int .u8 0, .int .i16 0, .int .u8 0, .int .i16 0, .int .u8 0, .int .i16 0, .int .u8 0, .int .i16 0, .int .u8 0, .int .i16 0, .int .u8 0, .int .i16 0, .int .u8 0, .int .i16 0, .int .u8 0, .int .i16 0, .int .u8 0, .int .i16 0] 28)) = W0 := ⟨_, rfl⟩
  rw [hW0] at h1 h2 h3 h4 ⊢
  clear hW0
  have G1 := Lib.hid h1
  have G2 := Lib.hid h2
  have G3 := Lib.hid h3
  have G4 := Lib.hid h4
  have hv0 : chkV ad (okC bs) = .iface 81 (.pointer (some (ad 5))) := by rw [hok]; rfl
  have hv1 : btV ad (p, q) = .iface 81 (.pointer (some (ad 5))) := by unfold btV; rw [hv]; rfl
  have hv2 : plV ad n = .nilIface := by unfold plV; rw [if_pos (by omega)]
  have V0 := Lib.hid hv0
  have V1 := Lib.hid hv1
  have V2 := Lib.hid hv2
  clear h1 h2 h3 h4 hv0 hv1 hv2 hok hv
  refine wp_region_held_drew (S := fun w' => Below W0.heap.size W0 w') (by kernel_rfl) (Below.refl _ _).drew (fun hHeld => ?_)
  refine wpAnyH_take (i := 5) (v := .int .i64 n) rfl (by kernel_rfl) (by kernel_rfl) (by kernel_rfl) (fun _ _ _ h => h) (Or.inl ⟨by rfl, fun w _ => by go_simp⟩) (by assumption) ?_
  refine' wpAnyH_take (i := 0) (v := _) rfl (by kernel_rfl) (by kernel_rfl) (by kernel_rfl) (fun _ _ _ h => h) (yieldsIf_load_mid (by rfl) 28 (.tmp 3) rfl w.heap.size 0 rfl (ccells bs) _ (fun w h => CBlk.range (G1.out.below h G1.out.lt)) Tryd.underlying28 rfl (size_of_crate Tryd.sizeCr _ HW.out.1)) (by assumption) ?_
  refine' wpAnyH_take (i := 3) (v := _) rfl (by kernel_rfl) (by kernel_rfl) (by kernel_rfl) (fun _ _ _ h => h) (yieldsIf_load_mid (by rfl) 26 (.tmp 5) rfl (w.heap.size + 1) 0 rfl [.int .u8 p, .int .i16 q] _ (fun w h => CBlk.range (X := [(p, q)]) (G3.out.below h G3.out.lt)) Tryd.underlying26 rfl (size_of_bot Tryd.sizeBt (p, q))) (by assumption) ?_
  refine wpAnyH_ready (rs := [1]) (by kernel_rfl) (by simp) ?_
  refine AllReadyH.cons rfl (fun K hK => ?_) AllReadyH.nil
  refine if_wanted rfl (wp_oneCrate 60 28 (.tmp 9) rfl bs HW.out.1 rfl Tryd.underlying60 Tryd.sizeCr Tryd.zeroCr ?_)
  refine hK.out _ _ (hHeld.alloc hHeld.size _) (fun hHeld => ?_)
  clear hK K
  refine wpAnyH_ready (rs := [2]) (by kernel_rfl) (by simp) ?_
  refine AllReadyH.cons rfl (fun K hK => ?_) AllReadyH.nil
  refine if_wanted rfl ?_
  go_simp
  have hA : Below W0.heap.size W0 (W0.alloc (.cells (ccells bs).toArray 28)).drew := ((Below.refl _ W0).alloc (Nat.le_refl _) _).drew
  refine (checkOne_any bs HW.out W0.heap.size _ ad (W0.alloc (.cells (ccells bs).toArray 28)).drew (CBlk.new W0 28 bs) (HE.out.below (G4.out.trans (hA.mono G4.out.size)) (Nat.le_refl _))).mono ?_
  rintro e w1 ⟨rfl, hb1⟩
  have hB1 : Below W0.heap.size W0 w1 := hA.trans (hb1.mono hA.size)
  have B1 := Lib.hid hB1
  clear hA hb1 hHeld
  dsimp only
  rw [V0.out]
  refine hK.out _ _ hB1 (fun hHeld => ?_)
  clear hK K
  refine wpAnyH_ready (rs := [4]) (by kernel_rfl) (by simp) ?_
  refine AllReadyH.cons rfl (fun K hK => ?_) AllReadyH.nil
  refine if_wanted rfl ?_
  go_simp
  refine (checkBottle_any p q ad _ (HE.out.below (G4.out.trans (B1.out.mono G4.out.size)) (Nat.le_refl _))).mono ?_
  rintro e w2 ⟨rfl, hb2⟩
  have hB2 : Below W0.heap.size W0 w2 := B1.out.trans (hb2.mono B1.out.size)
  have B2 := Lib.hid hB2
  clear hB1 hb2 hHeld
  dsimp only
  rw [V1.out]
  refine hK.out _ _ hB2 (fun hHeld => ?_)
  clear hK K
  refine wpAnyH_ready (rs := [6]) (by kernel_rfl) (by simp) ?_
  refine AllReadyH.cons rfl (fun K hK => ?_) AllReadyH.nil
  refine if_wanted rfl ?_
  go_simp
  refine (checkPlace_any _ ad _ (HE.out.below (G4.out.trans (B2.out.mono G4.out.size)) (Nat.le_refl _))).mono ?_
  rintro e w2' ⟨rfl, rfl⟩
  dsimp only
  rw [V2.out]
  refine hK.out _ _ hB2 (fun hHeld => ?_)
  clear hK K
  refine wpAnyH_ready (rs := [7]) (by kernel_rfl) (by simp) ?_
  refine AllReadyH.cons rfl (fun K hK => ?_) AllReadyH.nil
  refine if_wanted rfl ?_
  go_simp
  refine hK.out _ _ (B2.out.alloc B2.out.size _) (fun hHeld => ?_)
  clear hK K
  have q0 := new_cell3 w2 (.iface 81 (.pointer (some (ad 5)))) (.iface 81 (.pointer (some (ad 5)))) (.nilIface) 49
  obtain ⟨W1, hW1⟩ : ∃ W1, w2.alloc (.cells #[.iface 81 (.pointer (some (ad 5))), .iface 81 (.pointer (some (ad 5))), .nilIface] 49) = W1 := ⟨_, rfl⟩
  rw [hW1] at q0 hHeld ⊢
  have Q := Lib.hid q0
  have B3 := Lib.hid hHeld
  have L1 : Hid (CBlk W1 w.heap.size 28 bs) := G1.out.below hHeld G1.out.lt
  have L2 : Hid (CBlk W1 (w.heap.size + 1 + 1) 28 noB) := G2.out.below hHeld G2.out.lt
  have L3 : Hid (CBlk W1 (w.heap.size + 1) 26 [(p, q)]) := G3.out.below hHeld G3.out.lt
  have HB2 : Hid (Below w.heap.size w W1) := G4.out.trans (hHeld.mono G4.out.size)
  clear q0 hW1 hB2 B1 B2 G1 G2 G3 G4 V0 V1 V2
  refine wpAnyH_ready (rs := [8]) (by kernel_rfl) (by simp) ?_
  refine AllReadyH.cons rfl (fun K hK => ?_) AllReadyH.nil
  refine if_wanted rfl ?_
  go_simp
  refine (first3_0 (ad 5) _ _ _ Q.out.1).mono ?_
  rintro e w3' ⟨rfl, rfl⟩
  dsimp only
  refine hK.out _ _ B3.out (fun hHeld => ?_)
  clear hK K
  refine wpAnyH_ready (rs := [9]) (by kernel_rfl) (by simp) ?_
  refine AllReadyH.cons rfl (fun K hK => ?_) AllReadyH.nil
  refine if_wanted rfl ?_
  refine wp_assign0 rfl rfl ?_
  refine hK.out _ _ B3.out (fun hHeld => ?_)
  clear hK K
  refine wpAnyH_done (by kernel_rfl) ?_ _
  clear Q B3 hHeld
  go_wp2_with fail
  refine (codeOf_5 (HE.out.below HB2.out (Nat.le_refl _))).mono ?_
  rintro e w3' ⟨rfl, rfl⟩
  go_wp2_with (refine wpList_store_row rfl 28 (.tmp 6) (.tmp 20) rfl (w.heap.size + 1 + 1) (ccells noB).toArray rfl rfl 28 _ L2.out (size_of_crate Tryd.sizeCr _ rfl) rfl (ccells_one _) ?_)
  exact bodyPost_ret (v := putV noB 1) (results_ct2 (v2 := .int .i64 1) rfl _ (by rfl) _ _ 28 _ (0, 0) _ rfl (CBlk.setRow (Y := noB) L2.out) Tryd.underlying28 rfl (size_of_crate Tryd.sizeCr _ rfl)) rfl ⟨rfl, Below.setRow HB2.out _ _ (by omega)⟩

set_option maxRecDepth 100000 in
set_option maxHeartbeats 1000000 in
theorem implPut_bad010 (bs : List Bot) (hwf : WfC bs) (n : Int) (p q : Int)  (hok : okC bs = false) (hv : vB (p, q) = true) (hn : ¬ (0 ≤ n ∧ n < 12)) (ad : Nat → Addr) (w : World) (hE : EW 7 w ad) : Calls Tryd.prog 10 #[.agg (ccells bs).toArray, .int .i64 n, .agg #[.int .u8 p, .int .i16 q]] w fun e w' => e = .returned (putV noB 1) ∧ Below w.heap.size w w' := by
  have HW := Lib.hid hwf
  have HE := Lib.hid hE
  clear hwf hE
  have h1 : CBlk (((w.alloc (.cells (ccells bs).toArray 28)).alloc (.cells #[.int .u8 p, .int .i16 q] 26)).alloc (.cells #[.int .u8 0, .int .i16 0, .int .u8 0, .int .i16 0, .int .u8 0, .int .i16 0, .int .u8 0, .int .i16 0, .int .u8 0, .int .i16 0, .int .u8 0, .int .i16 0, .int .u8 0, .int .i16 0, .int .u8 0, .int .i16 0, .int .u8 0, .int .i16 0, .int .u8 0, .int .i16 0, .int .u8 0, .int .i16 0, .int .u8 0, .int .i16 0] 28)) w.heap.size 28 bs := ((CBlk.new w 28 bs).alloc _).alloc _
  have h3 : CBlk (((w.alloc (.cells (ccells bs).toArray 28)).alloc (.cells #[.int .u8 p, .int .i16 q] 26)).alloc (.cells #[.int .u8 0, .int .i16 0, .int .u8 0, .int .i16 0, .int .u8 0, .int .i16 0, .int .u8 0, .int .i16 0, .int .u8 0, .int .i16 0, .int .u8 0, .int .i16 0, .int .u8 0, .int .i16 0, .int .u8 0, .int .i16 0, .int .u8 0, .int .i16 0, .int .u8 0, .int .i16 0, .int .u8 0, .int .i16 0, .int .u8 0, .int .i16 0] 28)) (w.heap.size + 1) 26 [(p, q)] := by
    refine CBlk.alloc ?_ _
    exact CBlk.new' (by simp) rfl
  have h2 : CBlk (((w.alloc (.cells (ccells bs).toArray 28)).alloc (.cells #[.int .u8 p, .int .i16 q] 26)).alloc (.cells #[.int .u8 0, .int .i16 0, .int .u8 0, .int .i16 0, .int .u8 0, .int .i16 0, .int .u8 0, .int .i16 0, .int .u8 0, .int .i16 0, .int .u8 0, .int .i16 0, .int .u8 0, .int .i16 0, .int .u8 0, .int .i16 0, .int .u8 0, .int .i16 0, .int .u8 0, .int .i16 0, .int .u8 0, .int .i16 0, .int .u8 0, .int .i16 0] 28)) (w.heap.size + 1 + 1) 28 noB := CBlk.new' (by simp) rfl
  have h4 : Below w.heap.size w (((w.alloc (.cells (ccells bs).toArray 28)).alloc (.cells #[.int .u8 p, .int .i16 q] 26)).alloc (.cells #[.int .u8 0, .int .i16 0, .int .u8 0, .int .i16 0, .int .u8 0, .int .i16 0, .int .u8 0, .int .i16 0, .int .u8 0, .int .i16 0, .int .u8 0, .int .i16 0, .int .u8 0, .int .i16 0, .int .u8 0, .int .i16 0, .int .u8 0, .int .i16 0, .int .u8 0, .int .i16 0, .int .u8 0, .int .i16 0, .int .u8 0, .int .i16 0] 28)) := (by repeat (first | exact Below.refl _ _ | refine Below.drew ?_ | refine Below.alloc ?_ (by simp <;> omega) _ | refine Below.setCell ?_ (by simp <;> omega) _))
  go_enter Tryd.func10, Tryd.ntmps10
  go_wp2_with fail
  obtain ⟨W0, hW0⟩ : ∃ W0, (((w.alloc (.cells (ccells bs).toArray 28)).alloc (.cells #[.int .u8 p, .int .i16 q] 26)).alloc (.cells #[.int .u8 0, .int .i16 0, .int .u8 0, .int .i16 0, .int .u8 0, .int .i16 0, .int .u8 0, .int .i16 0, .int .u8 0, .int .i16 0, .int .u8 0, .int .i16 0, .int .u8 0, .int .i16 0, .int .u8 0, .int .i16 0, .int .u8 0, .int .i16 0, .int .u8 0, .int .i16 0, .int .u8 0, .int .i16 0, .int .u8 0, .int .i16 0] 28)) = W0 := ⟨_, rfl⟩
  rw [hW0] at h1 h2 h3 h4 ⊢
  clear hW0
  have G1 := Lib.hid h1
  have G2 := Lib.hid h2
  have G3 := Lib.hid h3
  have G4 := Lib.hid h4
  have hv0 : chkV ad (okC bs) = .iface 81 (.pointer (some (ad 5))) := by rw [hok]; rfl
  have hv1 : btV ad (p, q) = .nilIface := by unfold btV; rw [hv]; rfl
  have hv2 : plV ad n = .iface 81 (.pointer (some (ad 0))) := by unfold plV; rw [if_neg (by omega)]; rfl
  have V0 := Lib.hid hv0
  have V1 := Lib.hid hv1
  have V2 := Lib.hid hv2
  clear h1 h2 h3 h4 hv0 hv1 hv2 hok hv
  refine wp_region_held_drew (S := fun w' => Below W0.heap.size W0 w') (by kernel_rfl) (Below.refl _ _).drew (fun hHeld => ?_)
  refine wpAnyH_take (i := 5) (v := .int .i64 n) rfl (by kernel_rfl) (by kernel_rfl) (by kernel_rfl) (fun _ _ _ h => h) (Or.inl ⟨by rfl, fun w _ => by go_simp⟩) (by assumption) ?_
  refine' wpAnyH_take (i := 0) (v := _) rfl (by kernel_rfl) (by kernel_rfl) (by kernel_rfl) (fun _ _ _ h => h) (yieldsIf_load_mid (by rfl) 28 (.tmp 3) rfl w.heap.size 0 rfl (ccells bs) _ (fun w h => CBlk.range (G1.out.below h G1.out.lt)) Tryd.underlying28 rfl (size_of_crate Tryd.sizeCr _ HW.out.1)) (by assumption) ?_
  refine' wpAnyH_take (i := 3) (v := _) rfl (by kernel_rfl) (by kernel_rfl) (by kernel_rfl) (fun _ _ _ h => h) (yieldsIf_load_mid (by rfl) 26 (.tmp 5) rfl (w.heap.size + 1) 0 rfl [.int .u8 p, .int .i16 q] _ (fun w h => CBlk.range (X := [(p, q)]) (G3.out.below h G3.out.lt)) Tryd.underlying26 rfl (size_of_bot Tryd.sizeBt (p, q))) (by assumption) ?_
  refine wpAnyH_ready (rs := [1]) (by kernel_rfl) (by simp) ?_
  refine AllReadyH.cons rfl (fun K hK => ?_) AllReadyH.nil
  refine if_wanted rfl (wp_oneCrate 60 28 (.tmp 9) rfl bs HW.out.1 rfl Tryd.underlying60 Tryd.sizeCr Tryd.zeroCr ?_)
  refine hK.out _ _ (hHeld.alloc hHeld.size _) (fun hHeld => ?_)
  clear hK K
  refine wpAnyH_ready (rs := [2]) (by kernel_rfl) (by simp) ?_
  refine AllReadyH.cons rfl (fun K hK => ?_) AllReadyH.nil
  refine if_wanted rfl ?_
  go_simp
  have hA : Below W0.heap.size W0 (W0.alloc (.cells (ccells bs).toArray 28)).drew := ((Below.refl _ W0).alloc (Nat.le_refl _) _).drew
  refine (checkOne_any bs HW.out W0.heap.size _ ad (W0.alloc (.cells (ccells bs).toArray 28)).drew (CBlk.new W0 28 bs) (HE.out.below (G4.out.trans (hA.mono G4.out.size)) (Nat.le_refl _))).mono ?_
  rintro e w1 ⟨rfl, hb1⟩
  have hB1 : Below W0.heap.size W0 w1 := hA.trans (hb1.mono hA.size)
  have B1 := Lib.hid hB1
  clear hA hb1 hHeld
  dsimp only
  rw [V0.out]
  refine hK.out _ _ hB1 (fun hHeld => ?_)
  clear hK K
  refine wpAnyH_ready (rs := [4]) (by kernel_rfl) (by simp) ?_
  refine AllReadyH.cons rfl (fun K hK => ?_) AllReadyH.nil
  refine if_wanted rfl ?_
  go_simp
  refine (checkBottle_any p q ad _ (HE.out.below (G4.out.trans (B1.out.mono G4.out.size)) (Nat.le_refl _))).mono ?_
  rintro e w2 ⟨rfl, hb2⟩
  have hB2 : Below W0.heap.size W0 w2 := B1.out.trans (hb2.mono B1.out.size)
  have B2 := Lib.hid hB2
  clear hB1 hb2 hHeld
  dsimp only
  rw [V1.out]
  refine hK.out _ _ hB2 (fun hHeld => ?_)
  clear hK K
  refine wpAnyH_ready (rs := [6]) (by kernel_rfl) (by simp) ?_
  refine AllReadyH.cons rfl (fun K hK => ?_) AllReadyH.nil
  refine if_wanted rfl ?_
  go_simp
  refine (checkPlace_any _ ad _ (HE.out.below (G4.out.trans (B2.out.mono G4.out.size)) (Nat.le_refl _))).mono ?_
  rintro e w2' ⟨rfl, rfl⟩
  dsimp only
  rw [V2.out]
  refine hK.out _ _ hB2 (fun hHeld => ?_)
  clear hK K
  refine wpAnyH_ready (rs := [7]) (by kernel_rfl) (by simp) ?_
  refine AllReadyH.cons rfl (fun K hK => ?_) AllReadyH.nil
  refine if_wanted rfl ?_
  go_simp
  refine hK.out _ _ (B2.out.alloc B2.out.size _) (fun hHeld => ?_)
  clear hK K
  have q0 := new_cell3 w2 (.iface 81 (.pointer (some (ad 5)))) (.nilIface) (.iface 81 (.pointer (some (ad 0)))) 49
  obtain ⟨W1, hW1⟩ : ∃ W1, w2.alloc (.cells #[.iface 81 (.pointer (some (ad 5))), .nilIface, .iface 81 (.pointer (some (ad 0)))] 49) = W1 := ⟨_, rfl⟩
  rw [hW1] at q0 hHeld ⊢
  have Q := Lib.hid q0
  have B3 := Lib.hid hHeld
  have L1 : Hid (CBlk W1 w.heap.size 28 bs) := G1.out.below hHeld G1.out.lt
  have L2 : Hid (CBlk W1 (w.heap.size + 1 + 1) 28 noB) := G2.out.below hHeld G2.out.lt
  have L3 : Hid (CBlk W1 (w.heap.size + 1) 26 [(p, q)]) := G3.out.below hHeld G3.out.lt
  have HB2 : Hid (Below w.heap.size w W1) := G4.out.trans (hHeld.mono G4.out.size)
  clear q0 hW1 hB2 B1 B2 G1 G2 G3 G4 V0 V1 V2
  refine wpAnyH_ready (rs := [8]) (by kernel_rfl) (by simp) ?_
  refine AllReadyH.cons rfl (fun K hK => ?_) AllReadyH.nil
  refine if_wanted rfl ?_
  go_simp
  refine (first3_0 (ad 5) _ _ _ Q.out.1).mono ?_
  rintro e w3' ⟨rfl, rfl⟩
  dsimp only
  refine hK.out _ _ B3.out (fun hHeld => ?_)
  clear hK K
  refine wpAnyH_ready (rs := [9]) (by kernel_rfl) (by simp) ?_
  refine AllReadyH.cons rfl (fun K hK => ?_) AllReadyH.nil
  refine if_wanted rfl ?_
  refine wp_assign0 rfl rfl ?_
  refine hK.out _ _ B3.out (fun hHeld => ?_)
  clear hK K
  refine wpAnyH_done (by kernel_rfl) ?_ _
  clear Q B3 hHeld
  go_wp2_with fail
  refine (codeOf_5 (HE.out.below HB2.out (Nat.le_refl _))).mono ?_
  rintro e w3' ⟨rfl, rfl⟩
  go_wp2_with (refine wpList_store_row rfl 28 (.tmp 6) (.tmp 20) rfl (w.heap.size + 1 + 1) (ccells noB).toArray rfl rfl 28 _ L2.out (size_of_crate Tryd.sizeCr _ rfl) rfl (ccells_one _) ?_)
  exact bodyPost_ret (v := putV noB 1) (results_ct2 (v2 := .int .i64 1) rfl _ (by rfl) _ _ 28 _ (0, 0) _ rfl (CBlk.setRow (Y := noB) L2.out) Tryd.underlying28 rfl (size_of_crate Tryd.sizeCr _ rfl)) rfl ⟨rfl, Below.setRow HB2.out _ _ (by omega)⟩

set_option maxRecDepth 100000 in
set_option maxHeartbeats 1000000 in
theorem implPut_bad011 (bs : List Bot) (hwf : WfC bs) (n : Int) (p q : Int)  (hok : okC bs = false) (hv : vB (p, q) = true) (hn : 0 ≤ n ∧ n < 12) (ad : Nat → Addr) (w : World) (hE : EW 7 w ad) : Calls Tryd.prog 10 #[.agg (ccells bs).toArray, .int .i64 n, .agg #[.int .u8 p, .int .i16 q]] w fun e w' => e = .returned (putV noB 1) ∧ Below w.heap.size w w' := by
  have HW := Lib.hid hwf
  have HE := Lib.hid hE
  clear hwf hE
  have h1 : CBlk (((w.alloc (.cells (ccells bs).toArray 28)).alloc (.cells #[.int .u8 p, .int .i16 q] 26)).alloc (.cells #[.int .u8 0, .int .i16 0, .int .u8 0, .int .i16 0, .int .u8 0, .int .i16 0, .int .u8 0, .int .i16 0, .int .u8 0, .int .i16 0, .int .u8 0, .int .i16 0, .int .u8 0, .int .i16 0, .int .u8 0, .int .i16 0, .int .u8 0, .int .i16 0, .int .u8 0, .int .i16 0, .int .u8 0, .int .i16 0, .int .u8 0, .int .i16 0] 28)) w.heap.size 28 bs := ((CBlk.new w 28 bs).alloc _).alloc _
  have h3 : CBlk (((w.alloc (.cells (ccells bs).toArray 28)).alloc (.cells #[.int .u8 p, .int .i16 q] 26)).alloc (.cells #[.int .u8 0, .int .i16 0, .int .u8 0, .int .i16 0, .int .u8 0, .int .i16 0, .int .u8 0, .int .i16 0, .int .u8 0, .int .i16 0, .int .u8 0, .int .i16 0, .int .u8 0, .int .i16 0, .int .u8 0, .int .i16 0, .int .u8 0, .int .i16 0, .int .u8 0, .int .i16 0, .int .u8 0, .int .i16 0, .int .u8 0, .int .i16 0] 28)) (w.heap.size + 1) 26 [(p, q)] := by
    refine CBlk.alloc ?_ _
    exact CBlk.new' (by simp) rfl
  have h2 : CBlk (((w.alloc (.cells (ccells bs).toArray 28)).alloc (.cells #[.int .u8 p, .int .i16 q] 26)).alloc (.cells #[.int .u8 0, .int .i16 0, .int .u8 0, .int .i16 0, .int .u8 0, .int .i16 0, .int .u8 0, .int .i16 0, .int .u8 0, .int .i16 0, .int .u8 0, .int .i16 0, .int .u8 0, .int .i16 0, .int .u8 0, .int .i16 0, .int .u8 0, .int .i16 0, .int .u8 0, .int .i16 0, .int .u8 0, .int .i16 0, .int .u8 0, .int .i16 0] 28)) (w.heap.size + 1 + 1) 28 noB := CBlk.new' (by simp) rfl
  have h4 : Below w.heap.size w (((w.alloc (.cells (ccells bs).toArray 28)).alloc (.cells #[.int .u8 p, .int .i16 q] 26)).alloc (.cells #[.int .u8 0, .int .i16 0, .int .u8 0, .int .i16 0, .int .u8 0, .int .i16 0, .int .u8 0, .int .i16 0, .int .u8 0, .int .i16 0, .int .u8 0, .int .i16 0, .int .u8 0, .int .i16 0, .int .u8 0, .int .i16 0, .int .u8 0, .int .i16 0, .int .u8 0, .int .i16 0, .int .u8 0, .int .i16 0, .int .u8 0, .int .i16 0] 28)) := (by repeat (first | exact Below.refl _ _ | refine Below.drew ?_ | refine Below.alloc ?_ (by simp <;> omega) _ | refine Below.setCell ?_ (by simp <;> omega) _))
  go_enter Tryd.func10, Tryd.ntmps10
  go_wp2_with fail
  obtain ⟨W0, hW0⟩ : ∃ W0, (((w.alloc (.cells (ccells bs).toArray 28)).alloc (.cells #[.int .u8 p, .int .i16 q] 26)).alloc (.cells #[.int .u8 0, .int .i16 0, .int .u8 0, .int .i16 0, .int .u8 0, .int .i16 0, .int .u8 0, .int .i16 0, .int .u8 0, .int .i16 0, .int .u8 0, .int .i16 0, .int .u8 0, .int .i16 0, .int .u8 0, .int .i16 0, .int .u8 0, .int .i16 0, .int .u8 0, .int .i16 0, .int .u8 0, .int .i16 0, .int .u8 0, .int .i16 0] 28)) = W0 := ⟨_, rfl⟩
  rw [hW0] at h1 h2 h3 h4 ⊢
  clear hW0
  have G1 := Lib.hid h1
  have G2 := Lib.hid h2
  have G3 := Lib.hid h3
  have G4 := Lib.hid h4
  have hv0 : chkV ad (okC bs) = .iface 81 (.pointer (some (ad 5))) := by rw [hok]; rfl
  have hv1 : btV ad (p, q) = .nilIface := by unfold btV; rw [hv]; rfl
  have hv2 : plV ad n = .nilIface := by unfold plV; rw [if_pos (by omega)]
  have V0 := Lib.hid hv0
  have V1 := Lib.hid hv1
  have V2 := Lib.hid hv2
  clear h1 h2 h3 h4 hv0 hv1 hv2 hok hv
  refine wp_region_held_drew (S := fun w' => Below W0.heap.size W0 w') (by kernel_rfl) (Below.refl _ _).drew (fun hHeld => ?_)
  refine wpAnyH_take (i := 5) (v := .int .i64 n) rfl (by kernel_rfl) (by kernel_rfl) (by kernel_rfl) (fun _ _ _ h => h) (Or.inl ⟨by rfl, fun w _ => by go_simp⟩) (by assumption) ?_
  refine' wpAnyH_take (i := 0) (v := _) rfl (by kernel_rfl) (by kernel_rfl) (by kernel_rfl) (fun _ _ _ h => h) (yieldsIf_load_mid (by rfl) 28 (.tmp 3) rfl w.heap.size 0 rfl (ccells bs) _ (fun w h => CBlk.range (G1.out.below h G1.out.lt)) Tryd.underlying28 rfl (size_of_crate Tryd.sizeCr _ HW.out.1)) (by assumption) ?_
  refine' wpAnyH_take (i := 3) (v := _) rfl (by kernel_rfl) (by kernel_rfl) (by kernel_rfl) (fun _ _ _ h => h) (yieldsIf_load_mid (by rfl) 26 (.tmp 5) rfl (w.heap.size + 1) 0 rfl [.int .u8 p, .int .i16 q] _ (fun w h => CBlk.range (X := [(p, q)]) (G3.out.below h G3.out.lt)) Tryd.underlying26 rfl (size_of_bot Tryd.sizeBt (p, q))) (by assumption) ?_
  refine wpAnyH_ready (rs := [1]) (by kernel_rfl) (by simp) ?_
  refine AllReadyH.cons rfl (fun K hK => ?_) AllReadyH.nil
  refine if_wanted rfl (wp_oneCrate 60 28 (.tmp 9) rfl bs HW.out.1 rfl Tryd.underlying60 Tryd.sizeCr Tryd.zeroCr ?_)
  refine hK.out _ _ (hHeld.alloc hHeld.size _) (fun hHeld => ?_)
  clear hK K
  refine wpAnyH_ready (rs := [2]) (by kernel_rfl) (by simp) ?_
  refine AllReadyH.cons rfl (fun K hK => ?_) AllReadyH.nil
  refine if_wanted rfl ?_
  go_simp
  have hA : Below W0.heap.size W0 (W0.alloc (.cells (ccells bs).toArray 28)).drew := ((Below.refl _ W0).alloc (Nat.le_refl _) _).drew
  refine (checkOne_any bs HW.out W0.heap.size _ ad (W0.alloc (.cells (ccells bs).toArray 28)).drew (CBlk.new W0 28 bs) (HE.out.below (G4.out.trans (hA.mono G4.out.size)) (Nat.le_refl _))).mono ?_
  rintro e w1 ⟨rfl, hb1⟩
  have hB1 : Below W0.heap.size W0 w1 := hA.trans (hb1.mono hA.size)
  have B1 := Lib.hid hB1
  clear hA hb1 hHeld
  dsimp only
  rw [V0.out]
  refine hK.out _ _ hB1 (fun hHeld => ?_)
  clear hK K
  refine wpAnyH_ready (rs := [4]) (by kernel_rfl) (by simp) ?_
  refine AllReadyH.cons rfl (fun K hK => ?_) AllReadyH.nil
  refine if_wanted rfl ?_
  go_simp
  refine (checkBottle_any p q ad _ (HE.out.below (G4.out.trans (B1.out.mono G4.out.size)) (Nat.le_refl _))).mono ?_
  rintro e w2 ⟨rfl, hb2⟩
  have hB2 : Below W0.heap.size W0 w2 := B1.out.trans (hb2.mono B1.out.size)
  have B2 := Lib.hid hB2
  clear hB1 hb2 hHeld
  dsimp only
  rw [V1.out]
  refine hK.out _ _ hB2 (fun hHeld => ?_)
  clear hK K
  refine wpAnyH_ready (rs := [6]) (by kernel_rfl) (by simp) ?_
  refine AllReadyH.cons rfl (fun K hK => ?_) AllReadyH.nil
  refine if_wanted rfl ?_
  go_simp
  refine (checkPlace_any _ ad _ (HE.out.below (G4.out.trans (B2.out.mono G4.out.size)) (Nat.le_refl _))).mono ?_
  rintro e w2' ⟨rfl, rfl⟩
  dsimp only
  rw [V2.out]
  refine hK.out _ _ hB2 (fun hHeld => ?_)
  clear hK K
  refine wpAnyH_ready (rs := [7]) (by kernel_rfl) (by simp) ?_
  refine AllReadyH.cons rfl (fun K hK => ?_) AllReadyH.nil
  refine if_wanted rfl ?_
  go_simp
  refine hK.out _ _ (B2.out.alloc B2.out.size _) (fun hHeld => ?_)
  clear hK K
  have q0 := new_cell3 w2 (.iface 81 (.pointer (some (ad 5)))) (.nilIface) (.nilIface) 49
  obtain ⟨W1, hW1⟩ : ∃ W1, w2.alloc (.cells #[.iface 81 (.pointer (some (ad 5))), .nilIface, .nilIface] 49) = W1 := ⟨_, rfl⟩
  rw [hW1] at q0 hHeld ⊢
  have Q := Lib.hid q0
  have B3 := Lib.hid hHeld
  have L1 : Hid (CBlk W1 w.heap.size 28 bs) := G1.out.below hHeld G1.out.lt
  have L2 : Hid (CBlk W1 (w.heap.size + 1 + 1) 28 noB) := G2.out.below hHeld G2.out.lt
  have L3 : Hid (CBlk W1 (w.heap.size + 1) 26 [(p, q)]) := G3.out.below hHeld G3.out.lt
  have HB2 : Hid (Below w.heap.size w W1) := G4.out.trans (hHeld.mono G4.out.size)
  clear q0 hW1 hB2 B1 B2 G1 G2 G3 G4 V0 V1 V2
  refine wpAnyH_ready (rs := [8]) (by kernel_rfl) (by simp) ?_
  refine AllReadyH.cons rfl (fun K hK => ?_) AllReadyH.nil
  refine if_wanted rfl ?_
  go_simp
  refine (first3_0 (ad 5) _ _ _ Q.out.1).mono ?_
  rintro e w3' ⟨rfl, rfl⟩
  dsimp only
  refine hK.out _ _ B3.out (fun hHeld => ?_)
  clear hK K
  refine wpAnyH_ready (rs := [9]) (by kernel_rfl) (by simp) ?_
  refine AllReadyH.cons rfl (fun K hK => ?_) AllReadyH.nil
  refine if_wanted rfl ?_
  refine wp_assign0 rfl rfl ?_
  refine hK.out _ _ B3.out (fun hHeld => ?_)
  clear hK K
  refine wpAnyH_done (by kernel_rfl) ?_ _
  clear Q B3 hHeld
  go_wp2_with fail
  refine (codeOf_5 (HE.out.below HB2.out (Nat.le_refl _))).mono ?_
  rintro e w3' ⟨rfl, rfl⟩
  go_wp2_with (refine wpList_store_row rfl 28 (.tmp 6) (.tmp 20) rfl (w.heap.size + 1 + 1) (ccells noB).toArray rfl rfl 28 _ L2.out (size_of_crate Tryd.sizeCr _ rfl) rfl (ccells_one _) ?_)
  exact bodyPost_ret (v := putV noB 1) (results_ct2 (v2 := .int .i64 1) rfl _ (by rfl) _ _ 28 _ (0, 0) _ rfl (CBlk.setRow (Y := noB) L2.out) Tryd.underlying28 rfl (size_of_crate Tryd.sizeCr _ rfl)) rfl ⟨rfl, Below.setRow HB2.out _ _ (by omega)⟩

set_option maxRecDepth 100000 in
set_option maxHeartbeats 1000000 in
theorem implPut_bad10 (bs : List Bot) (hwf : WfC bs) (n : Int) (p q : Int)  (hok : okC bs = true) (hv : vB (p, q) = false) (hn : ¬ (0 ≤ n ∧ n < 12)) (ad : Nat → Addr) (w : World) (hE : EW 7 w ad) : Calls Tryd.prog 10 #[.agg (ccells bs).toArray, .int .i64 n, .agg #[.int .u8 p, .int .i16 q]] w fun e w' => e = .returned (putV noB 1) ∧ Below w.heap.size w w' := by
  have HW := Lib.hid hwf
  have HE := Lib.hid hE
  clear hwf hE
  have h1 : CBlk (((w.alloc (.cells (ccells bs).toArray 28)).alloc (.cells #[.int .u8 p, .int .i16 q] 26)).alloc (.cells #[.int .u8 0, .int .i16 0, .int .u8 0, .int .i16 0, .int .u8 0, .int .i16 0, .int .u8 0, .int .i16 0, .int .u8 0, .int .i16 0, .int .u8 0, .int .i16 0, .int .u8 0, .int .i16 0, .int .u8 0, .int .i16 0, .int .u8 0, .int .i16 0, .int .u8 0, .int .i16 0, .int .u8 0, .int .i16 0, .int .u8 0, .int .i16 0] 28)) w.heap.size 28 bs := ((CBlk.new w 28 bs).alloc _).alloc _
  have h3 : CBlk (((w.alloc (.cells (ccells bs).toArray 28)).alloc (.cells #[.int .u8 p, .int .i16 q] 26)).alloc (.cells #[.int .u8 0, .int .i16 0, .int .u8 0, .int .i16 0, .int .u8 0, .int .i16 0, .int .u8 0, .int .i16 0, .int .u8 0, .int .i16 0, .int .u8 0, .int .i16 0, .int .u8 0, .int .i16 0, .int .u8 0, .int .i16 0, .int .u8 0, .int .i16 0, .int .u8 0, .int .i16 0, .int .u8 0, .int .i16 0, .int .u8 0, .int .i16 0] 28)) (w.heap.size + 1) 26 [(p, q)] := by
    refine CBlk.alloc ?_ _
    exact CBlk.new' (by simp) rfl
  have h2 : CBlk (((w.alloc (.cells (ccells bs).toArray 28)).alloc (.cells #[.int .u8 p, .int .i16 q] 26)).alloc (.cells #[.int .u8 0, .int .i16 0, .int .u8 0, .int .i16 0, .int .u8 0, .int .i16 0, .int .u8 0, .int .i16 0, .int .u8 0, .int .i16 0, .int .u8 0, .int .i16 0, .int .u8 0, .int .i16 0, .int .u8 0, .int .i16 0, .int .u8 0, .int .i16 0, .int .u8 0, .int .i16 0, .int .u8 0, .int .i16 0, .int .u8 0, .int .i16 0] 28)) (w.heap.size + 1 + 1) 28 noB := CBlk.new' (by simp) rfl
  have h4 : Below w.heap.size w (((w.alloc (.cells (ccells bs).toArray 28)).alloc (.cells #[.int .u8 p, .int .i16 q] 26)).alloc (.cells #[.int .u8 0, .int .i16 0, .int .u8 0, .int .i16 0, .int .u8 0, .int .i16 0, .int .u8 0, .int .i16 0, .int .u8 0, .int .i16 0, .int .u8 0, .int .i16 0, .int .u8 0, .int .i16 0, .int .u8 0, .int .i16 0, .int .u8 0, .int .i16 0, .int .u8 0, .int .i16 0, .int .u8 0, .int .i16 0, .int .u8 0, .int .i16 0] 28)) := (by repeat (first | exact Below.refl _ _ | refine Below.drew ?_ | refine Below.alloc ?_ (by simp <;> omega) _ | refine Below.setCell ?_ (by simp <;> omega) _))
  go_enter Tryd.func10, Tryd.ntmps10
  go_wp2_with fail
  obtain ⟨W0, hW0⟩ : ∃ W0, (((w.alloc (.cells (ccells bs).toArray 28)).alloc (.cells #[.int .u8 p, .int .i16 q] 26)).alloc (.cells #[.int .u8 0, .int .i16 0, .int .u8 0, .int .i16 0, .int .u8 0, .int .i16 0, .int .u8 0, .int .i16 0, .int .u8 0, .int .i16 0, .int .u8 0, .int .i16 0, .int .u8 0, .int .i16 0, .int .u8 0, .int .i16 0, .int .u8 0, .int .i16 0, .int .u8 0, .int .i16 0, .int .u8 0, .int .i16 0, .int .u8 0, .int .i16 0] 28)) = W0 := ⟨_, rfl⟩
  rw [hW0] at h1 h2 h3 h4 ⊢
  clear hW0
  have G1 := Lib.hid h1
  have G2 := Lib.hid h2
  have G3 := Lib.hid h3
  have G4 := Lib.hid h4
  have hv0 : chkV ad (okC bs) = .nilIface := by rw [hok]; rfl
  have hv1 : btV ad (p, q) = .iface 81 (.pointer (some (ad 5))) := by unfold btV; rw [hv]; rfl
  have hv2 : plV ad n = .iface 81 (.pointer (some (ad 0))) := by unfold plV; rw [if_neg (by omega)]; rfl
  have V0 := Lib.hid hv0
  have V1 := Lib.hid hv1
  have V2 := Lib.hid hv2
  clear h1 h2 h3 h4 hv0 hv1 hv2 hok hv
  refine wp_region_held_drew (S := fun w' => Below W0.heap.size W0 w') (by kernel_rfl) (Below.refl _ _).drew (fun hHeld => ?_)
  refine wpAnyH_take (i := 5) (v := .int .i64 n) rfl (by kernel_rfl) (by kernel_rfl) (by kernel_rfl) (fun _ _ _ h => h) (Or.inl ⟨by rfl, fun w _ => by go_simp⟩) (by assumption) ?_
  refine' wpAnyH_take (i := 0) (v := _) rfl (by kernel_rfl) (by kernel_rfl) (by kernel_rfl) (fun _ _ _ h => h) (yieldsIf_load_mid (by rfl) 28 (.tmp 3) rfl w.heap.size 0 rfl (ccells bs) _ (fun w h => CBlk.range (G1.out.below h G1.out.lt)) Tryd.underlying28 rfl (size_of_crate Tryd.sizeCr _ HW.out.1)) (by assumption) ?_
  refine' wpAnyH_take (i := 3) (v := _) rfl (by kernel_rfl) (by kernel_rfl) (by kernel_rfl) (fun _ _ _ h => h) (yieldsIf_load_mid (by rfl) 26 (.tmp 5) rfl (w.heap.size + 1) 0 rfl [.int .u8 p, .int .i16 q] _ (fun w h => CBlk.range (X := [(p, q)]) (G3.out.below h G3.out.lt)) Tryd.underlying26 rfl (size_of_bot Tryd.sizeBt (p, q))) (by assumption) ?_
  refine wpAnyH_ready (rs := [1]) (by kernel_rfl) (by simp) ?_
  refine AllReadyH.cons rfl (fun K hK => ?_) AllReadyH.nil
  refine if_wanted rfl (wp_oneCrate 60 28 (.tmp 9) rfl bs HW.out.1 rfl Tryd.underlying60 Tryd.sizeCr Tryd.zeroCr ?_)
  refine hK.out _ _ (hHeld.alloc hHeld.size _) (fun hHeld => ?_)
  clear hK K
  refine wpAnyH_ready (rs := [2]) (by kernel_rfl) (by simp) ?_
  refine AllReadyH.cons rfl (fun K hK => ?_) AllReadyH.nil
  refine if_wanted rfl ?_
  go_simp
  have hA : Below W0.heap.size W0 (W0.alloc (.cells (ccells bs).toArray 28)).drew := ((Below.refl _ W0).alloc (Nat.le_refl _) _).drew
  refine (checkOne_any bs HW.out W0.heap.size _ ad (W0.alloc (.cells (ccells bs).toArray 28)).drew (CBlk.new W0 28 bs) (HE.out.below (G4.out.trans (hA.mono G4.out.size)) (Nat.le_refl _))).mono ?_
  rintro e w1 ⟨rfl, hb1⟩
  have hB1 : Below W0.heap.size W0 w1 := hA.trans (hb1.mono hA.size)
  have B1 := Lib.hid hB1
  clear hA hb1 hHeld
  dsimp only
  rw [V0.out]
  refine hK.out _ _ hB1 (fun hHeld => ?_)
  clear hK K
  refine wpAnyH_ready (rs := [4]) (by kernel_rfl) (by simp) ?_
  refine AllReadyH.cons rfl (fun K hK => ?_) AllReadyH.nil
  refine if_wanted rfl ?_
  go_simp
  refine (checkBottle_any p q ad _ (HE.out.below (G4.out.trans (B1.out.mono G4.out.size)) (Nat.le_refl _))).mono ?_
  rintro e w2 ⟨rfl, hb2⟩
  have hB2 : Below W0.heap.size W0 w2 := B1.out.trans (hb2.mono B1.out.size)
  have B2 := Lib.hid hB2
  clear hB1 hb2 hHeld
  dsimp only
  rw [V1.out]
  refine hK.out _ _ hB2 (fun hHeld => ?_)
  clear hK K
  refine wpAnyH_ready (rs := [6]) (by kernel_rfl) (by simp) ?_
  refine AllReadyH.cons rfl (fun K hK => ?_) AllReadyH.nil
  refine if_wanted rfl ?_
  go_simp
  refine (checkPlace_any _ ad _ (HE.out.below (G4.out.trans (B2.out.mono G4.out.size)) (Nat.le_refl _))).mono ?_
  rintro e w2' ⟨rfl, rfl⟩
  dsimp only
  rw [V2.out]
  refine hK.out _ _ hB2 (fun hHeld => ?_)
  clear hK K
  refine wpAnyH_ready (rs := [7]) (by kernel_rfl) (by simp) ?_
  refine AllReadyH.cons rfl (fun K hK => ?_) AllReadyH.nil
  refine if_wanted rfl ?_
  go_simp
  refine hK.out _ _ (B2.out.alloc B2.out.size _) (fun hHeld => ?_)
  clear hK K
  have q0 := new_cell3 w2 (.nilIface) (.iface 81 (.pointer (some (ad 5)))) (.iface 81 (.pointer (some (ad 0)))) 49
  obtain ⟨W1, hW1⟩ : ∃ W1, w2.alloc (.cells #[.nilIface, .iface 81 (.pointer (some (ad 5))), .iface 81 (.pointer (some (ad 0)))] 49) = W1 := ⟨_, rfl⟩
  rw [hW1] at q0 hHeld ⊢
  have Q := Lib.hid q0
  have B3 := Lib.hid hHeld
  have L1 : Hid (CBlk W1 w.heap.size 28 bs) := G1.out.below hHeld G1.out.lt
  have L2 : Hid (CBlk W1 (w.heap.size + 1 + 1) 28 noB) := G2.out.below hHeld G2.out.lt
  have L3 : Hid (CBlk W1 (w.heap.size + 1) 26 [(p, q)]) := G3.out.below hHeld G3.out.lt
  have HB2 : Hid (Below w.heap.size w W1) := G4.out.trans (hHeld.mono G4.out.size)
  clear q0 hW1 hB2 B1 B2 G1 G2 G3 G4 V0 V1 V2
  refine wpAnyH_ready (rs := [8]) (by kernel_rfl) (by simp) ?_
  refine AllReadyH.cons rfl (fun K hK => ?_) AllReadyH.nil
  refine if_wanted rfl ?_
  go_simp
  refine (first3_1 (ad 5) _ _ _ Q.out.1 Q.out.2.1).mono ?_
  rintro e w3' ⟨rfl, rfl⟩
  dsimp only
  refine hK.out _ _ B3.out (fun hHeld => ?_)
  clear hK K
  refine wpAnyH_ready (rs := [9]) (by kernel_rfl) (by simp) ?_
  refine AllReadyH.cons rfl (fun K hK => ?_) AllReadyH.nil
  refine if_wanted rfl ?_
  refine wp_assign0 rfl rfl ?_
  refine hK.out _ _ B3.out (fun hHeld => ?_)
  clear hK K
  refine wpAnyH_done (by kernel_rfl) ?_ _
  clear Q B3 hHeld
  go_wp2_with fail
  refine (codeOf_5 (HE.out.below HB2.out (Nat.le_refl _))).mono ?_
  rintro e w3' ⟨rfl, rfl⟩
  go_wp2_with (refine wpList_store_row rfl 28 (.tmp 6) (.tmp 20) rfl (w.heap.size + 1 + 1) (ccells noB).toArray rfl rfl 28 _ L2.out (size_of_crate Tryd.sizeCr _ rfl) rfl (ccells_one _) ?_)
  exact bodyPost_ret (v := putV noB 1) (results_ct2 (v2 := .int .i64 1) rfl _ (by rfl) _ _ 28 _ (0, 0) _ rfl (CBlk.setRow (Y := noB) L2.out) Tryd.underlying28 rfl (size_of_crate Tryd.sizeCr _ rfl)) rfl ⟨rfl, Below.setRow HB2.out _ _ (by omega)⟩

set_option maxRecDepth 100000 in
set_option maxHeartbeats 1000000 in
theorem implPut_bad11 (bs : List Bot) (hwf : WfC bs) (n : Int) (p q : Int)  (hok : okC bs = true) (hv : vB (p, q) = false) (hn : 0 ≤ n ∧ n < 12) (ad : Nat → Addr) (w : World) (hE : EW 7 w ad) : Calls Tryd.prog 10 #[.agg (ccells bs).toArray, .int .i64 n, .agg #[.int .u8 p, .int .i16 q]] w fun e w' => e = .returned (putV noB 1) ∧ Below w.heap.size w w' := by
  have HW := Lib.hid hwf
  have HE := Lib.hid hE
  clear hwf hE
  have h1 : CBlk (((w.alloc (.cells (ccells bs).toArray 28)).alloc (.cells #[.int .u8 p, .int .i16 q] 26)).alloc (.cells #[.int .u8 0, .int .i16 0, .int .u8 0, .int .i16 0, .int .u8 0, .int .i16 0, .int .u8 0, .int .i16 0, .int .u8 0, .int .i16 0, .int .u8 0, .int .i16 0, .int .u8 0, .int .i16 0, .int .u8 0, .int .i16 0, .int .u8 0, .int .i16 0, .int .u8 0, .int .i16 0, .int .u8 0, .int .i16 0, .int .u8 0, .int .i16 0] 28)) w.heap.size 28 bs := ((CBlk.new w 28 bs).alloc _).alloc _
  have h3 : CBlk (((w.alloc (.cells (ccells bs).toArray 28)).alloc (.cells #[.int .u8 p, .int .i16 q] 26)).alloc (.cells #[.int .u8 0, .int .i16 0, .int .u8 0, .int .i16 0, .int .u8 0, .int .i16 0, .int .u8 0, .int .i16 0, .int .u8 0, .int .i16 0, .int .u8 0, .int .i16 0, .int .u8 0, .int .i16 0, .int .u8 0, .int .i16 0, .int .u8 0, .int .i16 0, .int .u8 0, .int .i16 0, .int .u8 0, .int .i16 0, .int .u8 0, .int .i16 0] 28)) (w.heap.size + 1) 26 [(p, q)] := by
    refine CBlk.alloc ?_ _
    exact CBlk.new' (by simp) rfl
  have h2 : CBlk (((w.alloc (.cells (ccells bs).toArray 28)).alloc (.cells #[.int .u8 p, .int .i16 q] 26)).alloc (.cells #[.int .u8 0, .int .i16 0, .int .u8 0, .int .i16 0, .int .u8 0, .int .i16 0, .int .u8 0, .int .i16 0, .int .u8 0, .int .i16 0, .int .u8 0, .int .i16 0, .int .u8 0, .int .i16 0, .int .u8 0, .int .i16 0, .int .u8 0, .int .i16 0, .int .u8 0, .int .i16 0, .int .u8 0, .int .i16 0, .int .u8 0, .int .i16 0] 28)) (w.heap.size + 1 + 1) 28 noB := CBlk.new' (by simp) rfl
  have h4 : Below w.heap.size w (((w.alloc (.cells (ccells bs).toArray 28)).alloc (.cells #[.int .u8 p, .int .i16 q] 26)).alloc (.cells #[.int .u8 0, .int .i16 0, .int .u8 0, .int .i16 0, .int .u8 0, .int .i16 0, .int .u8 0, .int .i16 0, .int .u8 0, .int .i16 0, .int .u8 0, .int .i16 0, .int .u8 0, .int .i16 0, .int .u8 0, .int .i16 0, .int .u8 0, .int .i16 0, .int .u8 0, .int .i16 0, .int .u8 0, .int .i16 0, .int .u8 0, .int .i16 0] 28)) := (by repeat (first | exact Below.refl _ _ | refine Below.drew ?_ | refine Below.alloc ?_ (by simp <;> omega) _ | refine Below.setCell ?_ (by simp <;> omega) _))
  go_enter Tryd.func10, Tryd.ntmps10
  go_wp2_with fail
  obtain ⟨W0, hW0⟩ : ∃ W0, (((w.alloc (.cells (ccells bs).toArray 28)).alloc (.cells #[.int .u8 p, .int .i16 q] 26)).alloc (.cells #[.int .u8 0, .int .i16 0, .int .u8 0, .int .i16 0, .int .u8 0, .int .i16 0, .int .u8 0, .int .i16 0, .int .u8 0, .int .i16 0, .int .u8 0, .int .i16 0, .int .u8 0, .int .i16 0, .int .u8 0, .int .i16 0, .int .u8 0, .int .i16 0, .int .u8 0, .int .i16 0, .int .u8 0, .int .i16 0, .int .u8 0, .int .i16 0] 28)) = W0 := ⟨_, rfl⟩
  rw [hW0] at h1 h2 h3 h4 ⊢
  clear hW0
  have G1 := Lib.hid h1
  have G2 := Lib.hid h2
  have G3 := Lib.hid h3
  have G4 := Lib.hid h4
  have hv0 : chkV ad (okC bs) = .nilIface := by rw [hok]; rfl
  have hv1 : btV ad (p, q) = .iface 81 (.pointer (some (ad 5))) := by unfold btV; rw [hv]; rfl
  have hv2 : plV ad n = .nilIface := by unfold plV; rw [if_pos (by omega)]
  have V0 := Lib.hid hv0
  have V1 := Lib.hid hv1
  have V2 := Lib.hid hv2
  clear h1 h2 h3 h4 hv0 hv1 hv2 hok hv
  refine wp_region_held_drew (S := fun w' => Below W0.heap.size W0 w') (by kernel_rfl) (Below.refl _ _).drew (fun hHeld => ?_)
  refine wpAnyH_take (i := 5) (v := .int .i64 n) rfl (by kernel_rfl) (by kernel_rfl) (by kernel_rfl) (fun _ _ _ h => h) (Or.inl ⟨by rfl, fun w _ => by go_simp⟩) (by assumption) ?_
  refine' wpAnyH_take (i := 0) (v := _) rfl (by kernel_rfl) (by kernel_rfl) (by kernel_rfl) (fun _ _ _ h => h) (yieldsIf_load_mid (by rfl) 28 (.tmp 3) rfl w.heap.size 0 rfl (ccells bs) _ (fun w h => CBlk.range (G1.out.below h G1.out.lt)) Tryd.underlying28 rfl (size_of_crate Tryd.sizeCr _ HW.out.1)) (by assumption) ?_
  refine' wpAnyH_take (i := 3) (v := _) rfl (by kernel_rfl) (by kernel_rfl) (by kernel_rfl) (fun _ _ _ h => h) (yieldsIf_load_mid (by rfl) 26 (.tmp 5) rfl (w.heap.size + 1) 0 rfl [.int .u8 p, .int .i16 q] _ (fun w h => CBlk.range (X := [(p, q)]) (G3.out.below h G3.out.lt)) Tryd.underlying26 rfl (size_of_bot Tryd.sizeBt (p, q))) (by assumption) ?_
  refine wpAnyH_ready (rs := [1]) (by kernel_rfl) (by simp) ?_
  refine AllReadyH.cons rfl (fun K hK => ?_) AllReadyH.nil
  refine if_wanted rfl (wp_oneCrate 60 28 (.tmp 9) rfl bs HW.out.1 rfl Tryd.underlying60 Tryd.sizeCr Tryd.zeroCr ?_)
  refine hK.out _ _ (hHeld.alloc hHeld.size _) (fun hHeld => ?_)
  clear hK K
  refine wpAnyH_ready (rs := [2]) (by kernel_rfl) (by simp) ?_
  refine AllReadyH.cons rfl (fun K hK => ?_) AllReadyH.nil
  refine if_wanted rfl ?_
  go_simp
  have hA : Below W0.heap.size W0 (W0.alloc (.cells (ccells bs).toArray 28)).drew := ((Below.refl _ W0).alloc (Nat.le_refl _) _).drew
  refine (checkOne_any bs HW.out W0.heap.size _ ad (W0.alloc (.cells (ccells bs).toArray 28)).drew (CBlk.new W0 28 bs) (HE.out.below (G4.out.trans (hA.mono G4.out.size)) (Nat.le_refl _))).mono ?_
  rintro e w1 ⟨rfl, hb1⟩
  have hB1 : Below W0.heap.size W0 w1 := hA.trans (hb1.mono hA.size)
  have B1 := Lib.hid hB1
  clear hA hb1 hHeld
  dsimp only
  rw [V0.out]
  refine hK.out _ _ hB1 (fun hHeld => ?_)
  clear hK K
  refine wpAnyH_ready (rs := [4]) (by kernel_rfl) (by simp) ?_
  refine AllReadyH.cons rfl (fun K hK => ?_) AllReadyH.nil
  refine if_wanted rfl ?_
  go_simp
  refine (checkBottle_any p q ad _ (HE.out.below (G4.out.trans (B1.out.mono G4.out.size)) (Nat.le_refl _))).mono ?_
  rintro e w2 ⟨rfl, hb2⟩
  have hB2 : Below W0.heap.size W0 w2 := B1.out.trans (hb2.mono B1.out.size)
  have B2 := Lib.hid hB2
  clear hB1 hb2 hHeld
  dsimp only
  rw [V1.out]
  refine hK.out _ _ hB2 (fun hHeld => ?_)
  clear hK K
  refine wpAnyH_ready (rs := [6]) (by kernel_rfl) (by simp) ?_
  refine AllReadyH.cons rfl (fun K hK => ?_) AllReadyH.nil
  refine if_wanted rfl ?_
  go_simp
  refine (checkPlace_any _ ad _ (HE.out.below (G4.out.trans (B2.out.mono G4.out.size)) (Nat.le_refl _))).mono ?_
  rintro e w2' ⟨rfl, rfl⟩
  dsimp only
  rw [V2.out]
  refine hK.out _ _ hB2 (fun hHeld => ?_)
  clear hK K
  refine wpAnyH_ready (rs := [7]) (by kernel_rfl) (by simp) ?_
  refine AllReadyH.cons rfl (fun K hK => ?_) AllReadyH.nil
  refine if_wanted rfl ?_
  go_simp
  refine hK.out _ _ (B2.out.alloc B2.out.size _) (fun hHeld => ?_)
  clear hK K
  have q0 := new_cell3 w2 (.nilIface) (.iface 81 (.pointer (some (ad 5)))) (.nilIface) 49
  obtain ⟨W1, hW1⟩ : ∃ W1, w2.alloc (.cells #[.nilIface, .iface 81 (.pointer (some (ad 5))), .nilIface] 49) = W1 := ⟨_, rfl⟩
  rw [hW1] at q0 hHeld ⊢
  have Q := Lib.hid q0
  have B3 := Lib.hid hHeld
  have L1 : Hid (CBlk W1 w.heap.size 28 bs) := G1.out.below hHeld G1.out.lt
  have L2 : Hid (CBlk W1 (w.heap.size + 1 + 1) 28 noB) := G2.out.below hHeld G2.out.lt
  have L3 : Hid (CBlk W1 (w.heap.size + 1) 26 [(p, q)]) := G3.out.below hHeld G3.out.lt
  have HB2 : Hid (Below w.heap.size w W1) := G4.out.trans (hHeld.mono G4.out.size)
  clear q0 hW1 hB2 B1 B2 G1 G2 G3 G4 V0 V1 V2
  refine wpAnyH_ready (rs := [8]) (by kernel_rfl) (by simp) ?_
  refine AllReadyH.cons rfl (fun K hK => ?_) AllReadyH.nil
  refine if_wanted rfl ?_
  go_simp
  refine (first3_1 (ad 5) _ _ _ Q.out.1 Q.out.2.1).mono ?_
  rintro e w3' ⟨rfl, rfl⟩
  dsimp only
  refine hK.out _ _ B3.out (fun hHeld => ?_)
  clear hK K
  refine wpAnyH_ready (rs := [9]) (by kernel_rfl) (by simp) ?_
  refine AllReadyH.cons rfl (fun K hK => ?_) AllReadyH.nil
  refine if_wanted rfl ?_
  refine wp_assign0 rfl rfl ?_
  refine hK.out _ _ B3.out (fun hHeld => ?_)
  clear hK K
  refine wpAnyH_done (by kernel_rfl) ?_ _
  clear Q B3 hHeld
  go_wp2_with fail
  refine (codeOf_5 (HE.out.below HB2.out (Nat.le_refl _))).mono ?_
  rintro e w3' ⟨rfl, rfl⟩
  go_wp2_with (refine wpList_store_row rfl 28 (.tmp 6) (.tmp 20) rfl (w.heap.size + 1 + 1) (ccells noB).toArray rfl rfl 28 _ L2.out (size_of_crate Tryd.sizeCr _ rfl) rfl (ccells_one _) ?_)
  exact bodyPost_ret (v := putV noB 1) (results_ct2 (v2 := .int .i64 1) rfl _ (by rfl) _ _ 28 _ (0, 0) _ rfl (CBlk.setRow (Y := noB) L2.out) Tryd.underlying28 rfl (size_of_crate Tryd.sizeCr _ rfl)) rfl ⟨rfl, Below.setRow HB2.out _ _ (by omega)⟩

set_option maxRecDepth 100000 in
set_option maxHeartbeats 1000000 in
theorem implPut_range (bs : List Bot) (hwf : WfC bs) (n : Int) (p q : Int)  (hok : okC bs = true) (hv : vB (p, q) = true) (hn : ¬ (0 ≤ n ∧ n < 12)) (ad : Nat → Addr) (w : World) (hE : EW 7 w ad) : Calls Tryd.prog 10 #[.agg (ccells bs).toArray, .int .i64 n, .agg #[.int .u8 p, .int .i16 q]] w fun e w' => e = .returned (putV noB 2) ∧ Below w.heap.size w w' := by
  have HW := Lib.hid hwf
  have HE := Lib.hid hE
  clear hwf hE
  have h1 : CBlk (((w.alloc (.cells (ccells bs).toArray 28)).alloc (.cells #[.int .u8 p, .int .i16 q] 26)).alloc (.cells #[.int .u8 0, .int .i16 0, .int .u8 0, .int .i16 0, .int .u8 0, .int .i16 0, .int .u8 0, .int .i16 0, .int .u8 0, .int .i16 0, .int .u8 0, .int .i16 0, .int .u8 0, .int .i16 0, .int .u8 0, .int .i16 0, .int .u8 0, .int .i16 0, .int .u8 0, .int .i16 0, .int .u8 0, .int .i16 0, .int .u8 0, .int .i16 0] 28)) w.heap.size 28 bs := ((CBlk.new w 28 bs).alloc _).alloc _
  have h3 : CBlk (((w.alloc (.cells (ccells bs).toArray 28)).alloc (.cells #[.int .u8 p, .int .i16 q] 26)).alloc (.cells #[.int .u8 0, .int .i16 0, .int .u8 0, .int .i16 0, .int .u8 0, .int .i16 0, .int .u8 0, .int .i16 0, .int .u8 0, .int .i16 0, .int .u8 0, .int .i16 0, .int .u8 0, .int .i16 0, .int .u8 0, .int .i16 0, .int .u8 0, .int .i16 0, .int .u8 0, .int .i16 0, .int .u8 0, .int .i16 0, .int .u8 0, .int .i16 0] 28)) (w.heap.size + 1) 26 [(p, q)] := by
    refine CBlk.alloc ?_ _
    exact CBlk.new' (by simp) rfl
  have h2 : CBlk (((w.alloc (.cells (ccells bs).toArray 28)).alloc (.cells #[.int .u8 p, .int .i16 q] 26)).alloc (.cells #[.int .u8 0, .int .i16 0, .int .u8 0, .int .i16 0, .int .u8 0, .int .i16 0, .int .u8 0, .int .i16 0, .int .u8 0, .int .i16 0, .int .u8 0, .int .i16 0, .int .u8 0, .int .i16 0, .int .u8 0, .int .i16 0, .int .u8 0, .int .i16 0, .int .u8 0, .int .i16 0, .int .u8 0, .int .i16 0, .int .u8 0, .int .i16 0] 28)) (w.heap.size + 1 + 1) 28 noB := CBlk.new' (by simp) rfl
  have h4 : Below w.heap.size w (((w.alloc (.cells (ccells bs).toArray 28)).alloc (.cells #[.int .u8 p, .int .i16 q] 26)).alloc (.cells #[.int .u8 0, .int .i16 0, .int .u8 0, .int .i16 0, .int .u8 0, .int .i16 0, .int .u8 0, .int .i16 0, .int .u8 0, .int .i16 0, .int .u8 0, .int .i16 0, .int .u8 0, .int .i16 0, .int .u8 0, .int .i16 0, .int .u8 0, .int .i16 0, .int .u8 0, .int .i16 0, .int .u8 0, .int .i16 0, .int .u8 0, .int .i16 0] 28)) := (by repeat (first | exact Below.refl _ _ | refine Below.drew ?_ | refine Below.alloc ?_ (by simp <;> omega) _ | refine Below.setCell ?_ (by simp <;> omega) _))
  go_enter Tryd.func10, Tryd.ntmps10
  go_wp2_with fail
  obtain ⟨W0, hW0⟩ : ∃ W0, (((w.alloc (.cells (ccells bs).toArray 28)).alloc (.cells #[.int .u8 p, .int .i16 q] 26)).alloc (.cells #[.int .u8 0, .int .i16 0, .int .u8 0, .int .i16 0, .int .u8 0, .int .i16 0, .int .u8 0, .int .i16 0, .int .u8 0, .int .i16 0, .int .u8 0, .int .i16 0, .int .u8 0, .int .i16 0, .int .u8 0, .int .i16 0, .int .u8 0, .int .i16 0, .int .u8 0, .int .i16 0, .int .u8 0, .int .i16 0, .int .u8 0, .int .i16 0] 28)) = W0 := ⟨_, rfl⟩
  rw [hW0] at h1 h2 h3 h4 ⊢
  clear hW0
  have G1 := Lib.hid h1
  have G2 := Lib.hid h2
  have G3 := Lib.hid h3
  have G4 := Lib.hid h4
  have hv0 : chkV ad (okC bs) = .nilIface := by rw [hok]; rfl
  have hv1 : btV ad (p, q) = .nilIface := by unfold btV; rw [hv]; rfl
  have hv2 : plV ad n = .iface 81 (.pointer (some (ad 0))) := by unfold plV; rw [if_neg (by omega)]; rfl
  have V0 := Lib.hid hv0
  have V1 := Lib.hid hv1
  have V2 := Lib.hid hv2
  clear h1 h2 h3 h4 hv0 hv1 hv2 hok hv
  refine wp_region_held_drew (S := fun w' => Below W0.heap.size W0 w') (by kernel_rfl) (Below.refl _ _).drew (fun hHeld => ?_)
  refine wpAnyH_take (i := 5) (v := .int .i64 n) rfl (by kernel_rfl) (by kernel_rfl) (by kernel_rfl) (fun _ _ _ h => h) (Or.inl ⟨by rfl, fun w _ => by go_simp⟩) (by assumption) ?_
  refine' wpAnyH_take (i := 0) (v := _) rfl (by kernel_rfl) (by kernel_rfl) (by kernel_rfl) (fun _ _ _ h => h) (yieldsIf_load_mid (by rfl) 28 (.tmp 3) rfl w.heap.size 0 rfl (ccells bs) _ (fun w h => CBlk.range (G1.out.below h G1.out.lt)) Tryd.underlying28 rfl (size_of_crate Tryd.sizeCr _ HW.out.1)) (by assumption) ?_
  refine' wpAnyH_take (i := 3) (v := _) rfl (by kernel_rfl) (by kernel_rfl) (by kernel_rfl) (fun _ _ _ h => h) (yieldsIf_load_mid (by rfl) 26 (.tmp 5) rfl (w.heap.size + 1) 0 rfl [.int .u8 p, .int .i16 q] _ (fun w h => CBlk.range (X := [(p, q)]) (G3.out.below h G3.out.lt)) Tryd.underlying26 rfl (size_of_bot Tryd.sizeBt (p, q))) (by assumption) ?_
  refine wpAnyH_ready (rs := [1]) (by kernel_rfl) (by simp) ?_
  refine AllReadyH.cons rfl (fun K hK => ?_) AllReadyH.nil
  refine if_wanted rfl (wp_oneCrate 60 28 (.tmp 9) rfl bs HW.out.1 rfl Tryd.underlying60 Tryd.sizeCr Tryd.zeroCr ?_)
  refine hK.out _ _ (hHeld.alloc hHeld.size _) (fun hHeld => ?_)
  clear hK K
  refine wpAnyH_ready (rs := [2]) (by kernel_rfl) (by simp) ?_
  refine AllReadyH.cons rfl (fun K hK => ?_) AllReadyH.nil
  refine if_wanted rfl ?_
  go_simp
  have hA : Below W0.heap.size W0 (W0.alloc (.cells (ccells bs).toArray 28)).drew := ((Below.refl _ W0).alloc (Nat.le_refl _) _).drew
  refine (checkOne_any bs HW.out W0.heap.size _ ad (W0.alloc (.cells (ccells bs).toArray 28)).drew (CBlk.new W0 28 bs) (HE.out.below (G4.out.trans (hA.mono G4.out.size)) (Nat.le_refl _))).mono ?_
  rintro e w1 ⟨rfl, hb1⟩
  have hB1 : Below W0.heap.size W0 w1 := hA.trans (hb1.mono hA.size)
  have B1 := Lib.hid hB1
  clear hA hb1 hHeld
  dsimp only
  rw [V0.out]
  refine hK.out _ _ hB1 (fun hHeld => ?_)
  clear hK K
  refine wpAnyH_ready (rs := [4]) (by kernel_rfl) (by simp) ?_
  refine AllReadyH.cons rfl (fun K hK => ?_) AllReadyH.nil
  refine if_wanted rfl ?_
  go_simp
  refine (checkBottle_any p q ad _ (HE.out.below (G4.out.trans (B1.out.mono G4.out.size)) (Nat.le_refl _))).mono ?_
  rintro e w2 ⟨rfl, hb2⟩
  have hB2 : Below W0.heap.size W0 w2 := B1.out.trans (hb2.mono B1.out.size)
  have B2 := Lib.hid hB2
  clear hB1 hb2 hHeld
  dsimp only
  rw [V1.out]
  refine hK.out _ _ hB2 (fun hHeld => ?_)
  clear hK K
  refine wpAnyH_ready (rs := [6]) (by kernel_rfl) (by simp) ?_
  refine AllReadyH.cons rfl (fun K hK => ?_) AllReadyH.nil
  refine if_wanted rfl ?_
  go_simp
  refine (checkPlace_any _ ad _ (HE.out.below (G4.out.trans (B2.out.mono G4.out.size)) (Nat.le_refl _))).mono ?_
  rintro e w2' ⟨rfl, rfl⟩
  dsimp only
  rw [V2.out]
  refine hK.out _ _ hB2 (fun hHeld => ?_)
  clear hK K
  refine wpAnyH_ready (rs := [7]) (by kernel_rfl) (by simp) ?_
  refine AllReadyH.cons rfl (fun K hK => ?_) AllReadyH.nil
  refine if_wanted rfl ?_
  go_simp
  refine hK.out _ _ (B2.out.alloc B2.out.size _) (fun hHeld => ?_)
  clear hK K
  have q0 := new_cell3 w2 (.nilIface) (.nilIface) (.iface 81 (.pointer (some (ad 0)))) 49
  obtain ⟨W1, hW1⟩ : ∃ W1, w2.alloc (.cells #[.nilIface, .nilIface, .iface 81 (.pointer (some (ad 0)))] 49) = W1 := ⟨_, rfl⟩
  rw [hW1] at q0 hHeld ⊢
  have Q := Lib.hid q0
  have B3 := Lib.hid hHeld
  have L1 : Hid (CBlk W1 w.heap.size 28 bs) := G1.out.below hHeld G1.out.lt
  have L2 : Hid (CBlk W1 (w.heap.size + 1 + 1) 28 noB) := G2.out.below hHeld G2.out.lt
  have L3 : Hid (CBlk W1 (w.heap.size + 1) 26 [(p, q)]) := G3.out.below hHeld G3.out.lt
  have HB2 : Hid (Below w.heap.size w W1) := G4.out.trans (hHeld.mono G4.out.size)
  clear q0 hW1 hB2 B1 B2 G1 G2 G3 G4 V0 V1 V2
  refine wpAnyH_ready (rs := [8]) (by kernel_rfl) (by simp) ?_
  refine AllReadyH.cons rfl (fun K hK => ?_) AllReadyH.nil
  refine if_wanted rfl ?_
  go_simp
  refine (first3_2 (ad 0) _ _ _ Q.out.1 Q.out.2.1 Q.out.2.2).mono ?_
  rintro e w3' ⟨rfl, rfl⟩
  dsimp only
  refine hK.out _ _ B3.out (fun hHeld => ?_)
  clear hK K
  refine wpAnyH_ready (rs := [9]) (by kernel_rfl) (by simp) ?_
  refine AllReadyH.cons rfl (fun K hK => ?_) AllReadyH.nil
  refine if_wanted rfl ?_
  refine wp_assign0 rfl rfl ?_
  refine hK.out _ _ B3.out (fun hHeld => ?_)
  clear hK K
  refine wpAnyH_done (by kernel_rfl) ?_ _
  clear Q B3 hHeld
  go_wp2_with fail
  refine (codeOf_0 ((HE.out.below HB2.out (Nat.le_refl _)).less (by omega))).mono ?_
  rintro e w3' ⟨rfl, rfl⟩
  go_wp2_with (refine wpList_store_row rfl 28 (.tmp 6) (.tmp 20) rfl (w.heap.size + 1 + 1) (ccells noB).toArray rfl rfl 28 _ L2.out (size_of_crate Tryd.sizeCr _ rfl) rfl (ccells_one _) ?_)
  exact bodyPost_ret (v := putV noB 2) (results_ct2 (v2 := .int .i64 2) rfl _ (by rfl) _ _ 28 _ (0, 0) _ rfl (CBlk.setRow (Y := noB) L2.out) Tryd.underlying28 rfl (size_of_crate Tryd.sizeCr _ rfl)) rfl ⟨rfl, Below.setRow HB2.out _ _ (by omega)⟩

set_option maxRecDepth 100000 in
set_option maxHeartbeats 1000000 in
theorem implPut_state (bs : List Bot) (hwf : WfC bs) (p q : Int) (k : Nat) (hk : k < 12) (x y : Int) (hbk : bs[k]? = some (x, y)) (hF : eB (x, y) = false) (hok : okC bs = true) (hv : vB (p, q) = true)  (ad : Nat → Addr) (w : World) (hE : EW 7 w ad) : Calls Tryd.prog 10 #[.agg (ccells bs).toArray, .int .i64 (k : Int), .agg #[.int .u8 p, .int .i16 q]] w fun e w' => e = .returned (putV noB 4) ∧ Below w.heap.size w w' := by
  have HW := Lib.hid hwf
  have HE := Lib.hid hE
  clear hwf hE
  have h1 : CBlk (((w.alloc (.cells (ccells bs).toArray 28)).alloc (.cells #[.int .u8 p, .int .i16 q] 26)).alloc (.cells #[.int .u8 0, .int .i16 0, .int .u8 0, .int .i16 0, .int .u8 0, .int .i16 0, .int .u8 0, .int .i16 0, .int .u8 0, .int .i16 0, .int .u8 0, .int .i16 0, .int .u8 0, .int .i16 0, .int .u8 0, .int .i16 0, .int .u8 0, .int .i16 0, .int .u8 0, .int .i16 0, .int .u8 0, .int .i16 0, .int .u8 0, .int .i16 0] 28)) w.heap.size 28 bs := ((CBlk.new w 28 bs).alloc _).alloc _
  have h3 : CBlk (((w.alloc (.cells (ccells bs).toArray 28)).alloc (.cells #[.int .u8 p, .int .i16 q] 26)).alloc (.cells #[.int .u8 0, .int .i16 0, .int .u8 0, .int .i16 0, .int .u8 0, .int .i16 0, .int .u8 0, .int .i16 0, .int .u8 0, .int .i16 0, .int .u8 0, .int .i16 0, .int .u8 0, .int .i16 0, .int .u8 0, .int .i16 0, .int .u8 0, .int .i16 0, .int .u8 0, .int .i16 0, .int .u8 0, .int .i16 0, .int .u8 0, .int .i16 0] 28)) (w.heap.size + 1) 26 [(p, q)] := by
    refine CBlk.alloc ?_ _
    exact CBlk.new' (by simp) rfl
  have h2 : CBlk (((w.alloc (.cells (ccells bs).toArray 28)).alloc (.cells #[.int .u8 p, .int .i16 q] 26)).alloc (.cells #[.int .u8 0, .int .i16 0, .int .u8 0, .int .i16 0, .int .u8 0, .int .i16 0, .int .u8 0, .int .i16 0, .int .u8 0, .int .i16 0, .int .u8 0, .int .i16 0, .int .u8 0, .int .i16 0, .int .u8 0, .int .i16 0, .int .u8 0, .int .i16 0, .int .u8 0, .int .i16 0, .int .u8 0, .int .i16 0, .int .u8 0, .int .i16 0] 28)) (w.heap.size + 1 + 1) 28 noB := CBlk.new' (by simp) rfl
  have h4 : Below w.heap.size w (((w.alloc (.cells (ccells bs).toArray 28)).alloc (.cells #[.int .u8 p, .int .i16 q] 26)).alloc (.cells #[.int .u8 0, .int .i16 0, .int .u8 0, .int .i16 0, .int .u8 0, .int .i16 0, .int .u8 0, .int .i16 0, .int .u8 0, .int .i16 0, .int .u8 0, .int .i16 0, .int .u8 0, .int .i16 0, .int .u8 0, .int .i16 0, .int .u8 0, .int .i16 0, .int .u8 0, .int .i16 0, .int .u8 0, .int .i16 0, .int .u8 0, .int .i16 0] 28)) := (by repeat (first | exact Below.refl _ _ | refine Below.drew ?_ | refine Below.alloc ?_ (by simp <;> omega) _ | refine Below.setCell ?_ (by simp <;> omega) _))
  go_enter Tryd.func10, Tryd.ntmps10
  go_wp2_with fail
  obtain ⟨W0, hW0⟩ : ∃ W0, (((w.alloc (.cells (ccells bs).toArray 28)).alloc (.cells #[.int .u8 p, .int .i16 q] 26)).alloc (.cells #[.int .u8 0, .int .i16 0, .int .u8 0, .int .i16 0, .int .u8 0, .int .i16 0, .int .u8 0, .int .i16 0, .int .u8 0, .int .i16 0, .int .u8 0, .int .i16 0, .int .u8 0, .int .i16 0, .int .u8 0, .int .i16 0, .int .u8 0, .int .i16 0, .int .u8 0, .int .i16 0, .int .u8 0, .int .i16 0, .int .u8 0, .int .i16 0] 28)) = W0 := ⟨_, rfl⟩
  rw [hW0] at h1 h2 h3 h4 ⊢
  clear hW0
  have G1 := Lib.hid h1
  have G2 := Lib.hid h2
  have G3 := Lib.hid h3
  have G4 := Lib.hid h4
  have hv0 : chkV ad (okC bs) = .nilIface := by rw [hok]; rfl
  have hv1 : btV ad (p, q) = .nilIface := by unfold btV; rw [hv]; rfl
  have hv2 : plV ad (k : Int) = .nilIface := by unfold plV; rw [if_pos (by omega)]
  have V0 := Lib.hid hv0
  have V1 := Lib.hid hv1
  have V2 := Lib.hid hv2
  clear h1 h2 h3 h4 hv0 hv1 hv2 hok hv
  refine wp_region_held_drew (S := fun w' => Below W0.heap.size W0 w') (by kernel_rfl) (Below.refl _ _).drew (fun hHeld => ?_)
  refine wpAnyH_take (i := 5) (v := .int .i64 (k : Int)) rfl (by kernel_rfl) (by kernel_rfl) (by kernel_rfl) (fun _ _ _ h => h) (Or.inl ⟨by rfl, fun w _ => by go_simp⟩) (by assumption) ?_
  refine' wpAnyH_take (i := 0) (v := _) rfl (by kernel_rfl) (by kernel_rfl) (by kernel_rfl) (fun _ _ _ h => h) (yieldsIf_load_mid (by rfl) 28 (.tmp 3) rfl w.heap.size 0 rfl (ccells bs) _ (fun w h => CBlk.range (G1.out.below h G1.out.lt)) Tryd.underlying28 rfl (size_of_crate Tryd.sizeCr _ HW.out.1)) (by assumption) ?_
  refine' wpAnyH_take (i := 3) (v := _) rfl (by kernel_rfl) (by kernel_rfl) (by kernel_rfl) (fun _ _ _ h => h) (yieldsIf_load_mid (by rfl) 26 (.tmp 5) rfl (w.heap.size + 1) 0 rfl [.int .u8 p, .int .i16 q] _ (fun w h => CBlk.range (X := [(p, q)]) (G3.out.below h G3.out.lt)) Tryd.underlying26 rfl (size_of_bot Tryd.sizeBt (p, q))) (by assumption) ?_
  refine wpAnyH_ready (rs := [1]) (by kernel_rfl) (by simp) ?_
  refine AllReadyH.cons rfl (fun K hK => ?_) AllReadyH.nil
  refine if_wanted rfl (wp_oneCrate 60 28 (.tmp 9) rfl bs HW.out.1 rfl Tryd.underlying60 Tryd.sizeCr Tryd.zeroCr ?_)
  refine hK.out _ _ (hHeld.alloc hHeld.size _) (fun hHeld => ?_)
  clear hK K
  refine wpAnyH_ready (rs := [2]) (by kernel_rfl) (by simp) ?_
  refine AllReadyH.cons rfl (fun K hK => ?_) AllReadyH.nil
  refine if_wanted rfl ?_
  go_simp
  have hA : Below W0.heap.size W0 (W0.alloc (.cells (ccells bs).toArray 28)).drew := ((Below.refl _ W0).alloc (Nat.le_refl _) _).drew
  refine (checkOne_any bs HW.out W0.heap.size _ ad (W0.alloc (.cells (ccells bs).toArray 28)).drew (CBlk.new W0 28 bs) (HE.out.below (G4.out.trans (hA.mono G4.out.size)) (Nat.le_refl _))).mono ?_
  rintro e w1 ⟨rfl, hb1⟩
  have hB1 : Below W0.heap.size W0 w1 := hA.trans (hb1.mono hA.size)
  have B1 := Lib.hid hB1
  clear hA hb1 hHeld
  dsimp only
  rw [V0.out]
  refine hK.out _ _ hB1 (fun hHeld => ?_)
  clear hK K
  refine wpAnyH_ready (rs := [4]) (by kernel_rfl) (by simp) ?_
  refine AllReadyH.cons rfl (fun K hK => ?_) AllReadyH.nil
  refine if_wanted rfl ?_
  go_simp
  refine (checkBottle_any p q ad _ (HE.out.below (G4.out.trans (B1.out.mono G4.out.size)) (Nat.le_refl _))).mono ?_
  rintro e w2 ⟨rfl, hb2⟩
  have hB2 : Below W0.heap.size W0 w2 := B1.out.trans (hb2.mono B1.out.size)
  have B2 := Lib.hid hB2
  clear hB1 hb2 hHeld
  dsimp only
  rw [V1.out]
  refine hK.out _ _ hB2 (fun hHeld => ?_)
  clear hK K
  refine wpAnyH_ready (rs := [6]) (by kernel_rfl) (by simp) ?_
  refine AllReadyH.cons rfl (fun K hK => ?_) AllReadyH.nil
  refine if_wanted rfl ?_
  go_simp
  refine (checkPlace_any _ ad _ (HE.out.below (G4.out.trans (B2.out.mono G4.out.size)) (Nat.le_refl _))).mono ?_
  rintro e w2' ⟨rfl, rfl⟩
  dsimp only
  rw [V2.out]
  refine hK.out _ _ hB2 (fun hHeld => ?_)
  clear hK K
  refine wpAnyH_ready (rs := [7]) (by kernel_rfl) (by simp) ?_
  refine AllReadyH.cons rfl (fun K hK => ?_) AllReadyH.nil
  refine if_wanted rfl ?_
  go_simp
  refine hK.out _ _ (B2.out.alloc B2.out.size _) (fun hHeld => ?_)
  clear hK K
  have q0 := new_cell3 w2 (.nilIface) (.nilIface) (.nilIface) 49
  obtain ⟨W1, hW1⟩ : ∃ W1, w2.alloc (.cells #[.nilIface, .nilIface, .nilIface] 49) = W1 := ⟨_, rfl⟩
  rw [hW1] at q0 hHeld ⊢
  have Q := Lib.hid q0
  have B3 := Lib.hid hHeld
  have L1 : Hid (CBlk W1 w.heap.size 28 bs) := G1.out.below hHeld G1.out.lt
  have L2 : Hid (CBlk W1 (w.heap.size + 1 + 1) 28 noB) := G2.out.below hHeld G2.out.lt
  have L3 : Hid (CBlk W1 (w.heap.size + 1) 26 [(p, q)]) := G3.out.below hHeld G3.out.lt
  have HB2 : Hid (Below w.heap.size w W1) := G4.out.trans (hHeld.mono G4.out.size)
  clear q0 hW1 hB2 B1 B2 G1 G2 G3 G4 V0 V1 V2
  refine wpAnyH_ready (rs := [8]) (by kernel_rfl) (by simp) ?_
  refine AllReadyH.cons rfl (fun K hK => ?_) AllReadyH.nil
  refine if_wanted rfl ?_
  go_simp
  refine (first3_n _ _ _ Q.out.1 Q.out.2.1 Q.out.2.2).mono ?_
  rintro e w3' ⟨rfl, rfl⟩
  dsimp only
  refine hK.out _ _ B3.out (fun hHeld => ?_)
  clear hK K
  refine wpAnyH_ready (rs := [9]) (by kernel_rfl) (by simp) ?_
  refine AllReadyH.cons rfl (fun K hK => ?_) AllReadyH.nil
  refine if_wanted rfl ?_
  refine wp_assign0 rfl rfl ?_
  refine hK.out _ _ B3.out (fun hHeld => ?_)
  clear hK K
  refine wpAnyH_done (by kernel_rfl) ?_ _
  clear Q B3 hHeld
  have Hk := Lib.hid hbk
  have e1 := L1.out.kind' hbk
  have e2 := L1.out.year' hbk
  have hl0 : (0 : Int) ≤ k := by omega
  have hl1 : (k : Int) ≤ 11 := by omega
  have hl2 : (k : Int) < 12 := by omega
  clear hbk
  go_wp2_with fail
  refine (isBottle_any _ _ _).mono ?_
  rintro e w2b ⟨rfl, hb2⟩
  have HBn : Hid (Below w.heap.size w w2b) := HB2.out.trans (hb2.mono HB2.out.size)
  have L1n : Hid (CBlk w2b w.heap.size 28 bs) := L1.out.below hb2 L1.out.lt
  have L2n : Hid (CBlk w2b (w.heap.size + 1 + 1) 28 noB) := L2.out.below hb2 L2.out.lt
  have L3n : Hid (CBlk w2b (w.heap.size + 1) 26 [(p, q)]) := L3.out.below hb2 L3.out.lt
  clear hb2 e1 e2 L1 L2 L3 HB2
  have L1 := L1n
  have L2 := L2n
  have L3 := L3n
  have HB2 := HBn
  clear L1n L2n L3n HBn
  rw [hF]
  simp only [Bool.not_true, Bool.not_false]
  have c4 : w2b.cell? ⟨0, 0, none⟩ = some (.iface 81 (.pointer (some (ad 2)))) := (HE.out.below HB2.out (Nat.le_refl _)).cell 2 (by omega)
  go_wp2_with fail
  refine (codeOf_2 ((HE.out.below HB2.out (Nat.le_refl _)).less (by omega))).mono ?_
  clear c4
  rintro e w3' ⟨rfl, rfl⟩
  go_wp2_with (refine wpList_store_row rfl 28 (.tmp 6) (.tmp 27) rfl (w.heap.size + 1 + 1) (ccells noB).toArray rfl rfl 28 _ L2.out (size_of_crate Tryd.sizeCr _ rfl) rfl (ccells_one _) ?_)
  exact bodyPost_ret (v := putV noB 4) (results_ct2 (v2 := .int .i64 4) rfl _ (by rfl) _ _ 28 _ (0, 0) _ rfl (CBlk.setRow (Y := noB) L2.out) Tryd.underlying28 rfl (size_of_crate Tryd.sizeCr _ rfl)) rfl ⟨rfl, Below.setRow HB2.out _ _ (by omega)⟩

set_option maxRecDepth 100000 in
set_option maxHeartbeats 1000000 in
theorem implPut_some (bs : List Bot) (hwf : WfC bs) (p q : Int) (k : Nat) (hk : k < 12) (x y : Int) (hbk : bs[k]? = some (x, y)) (hF : eB (x, y) = true) (hok : okC bs = true) (hv : vB (p, q) = true)  (ad : Nat → Addr) (w : World) (hE : EW 7 w ad) : Calls Tryd.prog 10 #[.agg (ccells bs).toArray, .int .i64 (k : Int), .agg #[.int .u8 p, .int .i16 q]] w fun e w' => e = .returned (putV (bs.set k (p, q)) 0) ∧ Below w.heap.size w w' := by
  have HW := Lib.hid hwf
  have HE := Lib.hid hE
  clear hwf hE
  have h1 : CBlk (((w.alloc (.cells (ccells bs).toArray 28)).alloc (.cells #[.int .u8 p, .int .i16 q] 26)).alloc (.cells #[.int .u8 0, .int .i16 0, .int .u8 0, .int .i16 0, .int .u8 0, .int .i16 0, .int .u8 0, .int .i16 0, .int .u8 0, .int .i16 0, .int .u8 0, .int .i16 0, .int .u8 0, .int .i16 0, .int .u8 0, .int .i16 0, .int .u8 0, .int .i16 0, .int .u8 0, .int .i16 0, .int .u8 0, .int .i16 0, .int .u8 0, .int .i16 0] 28)) w.heap.size 28 bs := ((CBlk.new w 28 bs).alloc _).alloc _
  have h3 : CBlk (((w.alloc (.cells (ccells bs).toArray 28)).alloc (.cells #[.int .u8 p, .int .i16 q] 26)).alloc (.cells #[.int .u8 0, .int .i16 0, .int .u8 0, .int .i16 0, .int .u8 0, .int .i16 0, .int .u8 0, .int .i16 0, .int .u8 0, .int .i16 0, .int .u8 0, .int .i16 0, .int .u8 0, .int .i16 0, .int .u8 0, .int .i16 0, .int .u8 0, .int .i16 0, .int .u8 0, .int .i16 0, .int .u8 0, .int .i16 0, .int .u8 0, .int .i16 0] 28)) (w.heap.size + 1) 26 [(p, q)] := by
    refine CBlk.alloc ?_ _
    exact CBlk.new' (by simp) rfl
  have h2 : CBlk (((w.alloc (.cells (ccells bs).toArray 28)).alloc (.cells #[.int .u8 p, .int .i16 q] 26)).alloc (.cells #[.int .u8 0, .int .i16 0, .int .u8 0, .int .i16 0, .int .u8 0, .int .i16 0, .int .u8 0, .int .i16 0, .int .u8 0, .int .i16 0, .int .u8 0, .int .i16 0, .int .u8 0, .int .i16 0, .int .u8 0, .int .i16 0, .int .u8 0, .int .i16 0, .int .u8 0, .int .i16 0, .int .u8 0, .int .i16 0, .int .u8 0, .int .i16 0] 28)) (w.heap.size + 1 + 1) 28 noB := CBlk.new' (by simp) rfl
  have h4 : Below w.heap.size w (((w.alloc (.cells (ccells bs).toArray 28)).alloc (.cells #[.int .u8 p, .int .i16 q] 26)).alloc (.cells #[.int .u8 0, .int .i16 0, .int .u8 0, .int .i16 0, .int .u8 0, .int .i16 0, .int .u8 0, .int .i16 0, .int .u8 0, .int .i16 0, .int .u8 0, .int .i16 0, .int .u8 0, .int .i16 0, .int .u8 0, .int .i16 0, .int .u8 0, .int .i16 0, .int .u8 0, .int .i16 0, .int .u8 0, .int .i16 0, .int .u8 0, .int .i16 0] 28)) := (by repeat (first | exact Below.refl _ _ | refine Below.drew ?_ | refine Below.alloc ?_ (by simp <;> omega) _ | refine Below.setCell ?_ (by simp <;> omega) _))
  go_enter Tryd.func10, Tryd.ntmps10
  go_wp2_with fail
  obtain ⟨W0, hW0⟩ : ∃ W0, (((w.alloc (.cells (ccells bs).toArray 28)).alloc (.cells #[.int .u8 p, .int .i16 q] 26)).alloc (.cells #[.int .u8 0, .int .i16 0, .int .u8 0, .int .i16 0, .int .u8 0, .int .i16 0, .int .u8 0, .int .i16 0, .int .u8 0, .int .i16 0, .int .u8 0, .int .i16 0, .int .u8 0, .int .i16 0, .int .u8 0, .int .i16 0, .int .u8 0, .int .i16 0, .int .u8 0, .int .i16 0, .int .u8 0, .int .i16 0, .int .u8 0, .int .i16 0] 28)) = W0 := ⟨_, rfl⟩
  rw [hW0] at h1 h2 h3 h4 ⊢
  clear hW0
  have G1 := Lib.hid h1
  have G2 := Lib.hid h2
  have G3 := Lib.hid h3
  have G4 := Lib.hid h4
  have hv0 : chkV ad (okC bs) = .nilIface := by rw [hok]; rfl
  have hv1 : btV ad (p, q) = .nilIface := by unfold btV; rw [hv]; rfl
  have hv2 : plV ad (k : Int) = .nilIface := by unfold plV; rw [if_pos (by omega)]
  have V0 := Lib.hid hv0
  have V1 := Lib.hid hv1
  have V2 := Lib.hid hv2
  clear h1 h2 h3 h4 hv0 hv1 hv2 hok hv
  refine wp_region_held_drew (S := fun w' => Below W0.heap.size W0 w') (by kernel_rfl) (Below.refl _ _).drew (fun hHeld => ?_)
  refine wpAnyH_take (i := 5) (v := .int .i64 (k : Int)) rfl (by kernel_rfl) (by kernel_rfl) (by kernel_rfl) (fun _ _ _ h => h) (Or.inl ⟨by rfl, fun w _ => by go_simp⟩) (by assumption) ?_
  refine' wpAnyH_take (i := 0) (v := _) rfl (by kernel_rfl) (by kernel_rfl) (by kernel_rfl) (fun _ _ _ h => h) (yieldsIf_load_mid (by rfl) 28 (.tmp 3) rfl w.heap.size 0 rfl (ccells bs) _ (fun w h => CBlk.range (G1.out.below h G1.out.lt)) Tryd.underlying28 rfl (size_of_crate Tryd.sizeCr _ HW.out.1)) (by assumption) ?_
  refine' wpAnyH_take (i := 3) (v := _) rfl (by kernel_rfl) (by kernel_rfl) (by kernel_rfl) (fun _ _ _ h => h) (yieldsIf_load_mid (by rfl) 26 (.tmp 5) rfl (w.heap.size + 1) 0 rfl [.int .u8 p, .int .i16 q] _ (fun w h => CBlk.range (X := [(p, q)]) (G3.out.below h G3.out.lt)) Tryd.underlying26 rfl (size_of_bot Tryd.sizeBt (p, q))) (by assumption) ?_
  refine wpAnyH_ready (rs := [1]) (by kernel_rfl) (by simp) ?_
  refine AllReadyH.cons rfl (fun K hK => ?_) AllReadyH.nil
  refine if_wanted rfl (wp_oneCrate 60 28 (.tmp 9) rfl bs HW.out.1 rfl Tryd.underlying60 Tryd.sizeCr Tryd.zeroCr ?_)
  refine hK.out _ _ (hHeld.alloc hHeld.size _) (fun hHeld => ?_)
  clear hK K
  refine wpAnyH_ready (rs := [2]) (by kernel_rfl) (by simp) ?_
  refine AllReadyH.cons rfl (fun K hK => ?_) AllReadyH.nil
  refine if_wanted rfl ?_
  go_simp
  have hA : Below W0.heap.size W0 (W0.alloc (.cells (ccells bs).toArray 28)).drew := ((Below.refl _ W0).alloc (Nat.le_refl _) _).drew
  refine (checkOne_any bs HW.out W0.heap.size _ ad (W0.alloc (.cells (ccells bs).toArray 28)).drew (CBlk.new W0 28 bs) (HE.out.below (G4.out.trans (hA.mono G4.out.size)) (Nat.le_refl _))).mono ?_
  rintro e w1 ⟨rfl, hb1⟩
  have hB1 : Below W0.heap.size W0 w1 := hA.trans (hb1.mono hA.size)
  have B1 := Lib.hid hB1
  clear hA hb1 hHeld
  dsimp only
  rw [V0.out]
  refine hK.out _ _ hB1 (fun hHeld => ?_)
  clear hK K
  refine wpAnyH_ready (rs := [4]) (by kernel_rfl) (by simp) ?_
  refine AllReadyH.cons rfl (fun K hK => ?_) AllReadyH.nil
  refine if_wanted rfl ?_
  go_simp
  refine (checkBottle_any p q ad _ (HE.out.below (G4.out.trans (B1.out.mono G4.out.size)) (Nat.le_refl _))).mono ?_
  rintro e w2 ⟨rfl, hb2⟩
  have hB2 : Below W0.heap.size W0 w2 := B1.out.trans (hb2.mono B1.out.size)
  have B2 := Lib.hid hB2
  clear hB1 hb2 hHeld
  dsimp only
  rw [V1.out]
  refine hK.out _ _ hB2 (fun hHeld => ?_)
  clear hK K
  refine wpAnyH_ready (rs := [6]) (by kernel_rfl) (by simp) ?_
  refine AllReadyH.cons rfl (fun K hK => ?_) AllReadyH.nil
  refine if_wanted rfl ?_
  go_simp
  refine (checkPlace_any _ ad _ (HE.out.below (G4.out.trans (B2.out.mono G4.out.size)) (Nat.le_refl _))).mono ?_
  rintro e w2' ⟨rfl, rfl⟩
  dsimp only
  rw [V2.out]
  refine hK.out _ _ hB2 (fun hHeld => ?_)
  clear hK K
  refine wpAnyH_ready (rs := [7]) (by kernel_rfl) (by simp) ?_
  refine AllReadyH.cons rfl (fun K hK => ?_) AllReadyH.nil
  refine if_wanted rfl ?_
  go_simp
  refine hK.out _ _ (B2.out.alloc B2.out.size _) (fun hHeld => ?_)
  clear hK K
  have q0 := new_cell3 w2 (.nilIface) (.nilIface) (.nilIface) 49
  obtain ⟨W1, hW1⟩ : ∃ W1, w2.alloc (.cells #[.nilIface, .nilIface, .nilIface] 49) = W1 := ⟨_, rfl⟩
  rw [hW1] at q0 hHeld ⊢
  have Q := Lib.hid q0
  have B3 := Lib.hid hHeld
  have L1 : Hid (CBlk W1 w.heap.size 28 bs) := G1.out.below hHeld G1.out.lt
  have L2 : Hid (CBlk W1 (w.heap.size + 1 + 1) 28 noB) := G2.out.below hHeld G2.out.lt
  have L3 : Hid (CBlk W1 (w.heap.size + 1) 26 [(p, q)]) := G3.out.below hHeld G3.out.lt
  have HB2 : Hid (Below w.heap.size w W1) := G4.out.trans (hHeld.mono G4.out.size)
  clear q0 hW1 hB2 B1 B2 G1 G2 G3 G4 V0 V1 V2
  refine wpAnyH_ready (rs := [8]) (by kernel_rfl) (by simp) ?_
  refine AllReadyH.cons rfl (fun K hK => ?_) AllReadyH.nil
  refine if_wanted rfl ?_
  go_simp
  refine (first3_n _ _ _ Q.out.1 Q.out.2.1 Q.out.2.2).mono ?_
  rintro e w3' ⟨rfl, rfl⟩
  dsimp only
  refine hK.out _ _ B3.out (fun hHeld => ?_)
  clear hK K
  refine wpAnyH_ready (rs := [9]) (by kernel_rfl) (by simp) ?_
  refine AllReadyH.cons rfl (fun K hK => ?_) AllReadyH.nil
  refine if_wanted rfl ?_
  refine wp_assign0 rfl rfl ?_
  refine hK.out _ _ B3.out (fun hHeld => ?_)
  clear hK K
  refine wpAnyH_done (by kernel_rfl) ?_ _
  clear Q B3 hHeld
  have Hk := Lib.hid hbk
  have e1 := L1.out.kind' hbk
  have e2 := L1.out.year' hbk
  have hl0 : (0 : Int) ≤ k := by omega
  have hl1 : (k : Int) ≤ 11 := by omega
  have hl2 : (k : Int) < 12 := by omega
  clear hbk
  go_wp2_with fail
  refine (isBottle_any _ _ _).mono ?_
  rintro e w2b ⟨rfl, hb2⟩
  have HBn : Hid (Below w.heap.size w w2b) := HB2.out.trans (hb2.mono HB2.out.size)
  have L1n : Hid (CBlk w2b w.heap.size 28 bs) := L1.out.below hb2 L1.out.lt
  have L2n : Hid (CBlk w2b (w.heap.size + 1 + 1) 28 noB) := L2.out.below hb2 L2.out.lt
  have L3n : Hid (CBlk w2b (w.heap.size + 1) 26 [(p, q)]) := L3.out.below hb2 L3.out.lt
  clear hb2 e1 e2 L1 L2 L3 HB2
  have L1 := L1n
  have L2 := L2n
  have L3 := L3n
  have HB2 := HBn
  clear L1n L2n L3n HBn
  rw [hF]
  simp only [Bool.not_true, Bool.not_false]
  have e1 := L1.out.kind' Hk.out
  have e2 := L1.out.year' Hk.out
  have f1 := L1.out.frozen (k * 2)
  have f2 := L1.out.frozen (k * 2 + 1)
  have b0 : w2b.cell? ⟨w.heap.size + 1, 0, none⟩ = some (.int .u8 p) := L3.out.cell 0
  have b1 : w2b.cell? ⟨w.heap.size + 1, 1, none⟩ = some (.int .i16 q) := L3.out.cell 1
  have M0 : Hid (CBlk ((w2b.setCell ⟨w.heap.size, k * 2, none⟩ (.int .u8 p)).setCell ⟨w.heap.size, k * 2 + 1, none⟩ (.int .i16 q)) w.heap.size 28 (bs.set k (p, q))) := CBlk.set L1.out k (by rw [HW.out.1]; exact hk) (p, q)
  have M2 : Hid (CBlk ((w2b.setCell ⟨w.heap.size, k * 2, none⟩ (.int .u8 p)).setCell ⟨w.heap.size, k * 2 + 1, none⟩ (.int .i16 q)) (w.heap.size + 1 + 1) 28 noB) := (L2.out.other (by omega) _ _).other (by omega) _ _
  have MB : Hid (Below w.heap.size w ((w2b.setCell ⟨w.heap.size, k * 2, none⟩ (.int .u8 p)).setCell ⟨w.heap.size, k * 2 + 1, none⟩ (.int .i16 q))) := (HB2.out.setCell (p := ⟨w.heap.size, k * 2, none⟩) (Nat.le_refl _) _).setCell (p := ⟨w.heap.size, k * 2 + 1, none⟩) (Nat.le_refl _) _
  have HY : Hid ((bs.set k (p, q)).length = 12) := by show (bs.set k (p, q)).length = 12; rw [List.length_set]; exact HW.out.1
  go_wp2_with (first
    | (refine wpList_load_row rfl 28 (.tmp 3) rfl w.heap.size rfl 28 _ (0, 0) _ M0.out Tryd.underlying28 rfl (size_of_crate Tryd.sizeCr _ HY.out) ?_)
    | (refine wpList_store_row rfl 28 (.tmp 6) (.tmp 33) rfl (w.heap.size + 1 + 1) (ccells (bs.set k (p, q))).toArray rfl rfl 28 _ M2.out (size_of_crate Tryd.sizeCr _ HY.out) (by show (ccells noB).toArray.size = _; rw [ccells_size _ HY.out]; rfl) (ccells_one _) ?_))
  exact bodyPost_ret (v := putV (bs.set k (p, q)) 0) (results_ct2 (v2 := .int .i64 0) rfl _ (by rfl) _ _ 28 _ (0, 0) _ rfl (CBlk.setRow (Y := bs.set k (p, q)) M2.out) Tryd.underlying28 rfl (size_of_crate Tryd.sizeCr _ HY.out)) rfl ⟨rfl, Below.setRow MB.out _ _ (by omega)⟩
end Go.Proofs.YtjiihdljchaeiadDoor
