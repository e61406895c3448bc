/-
  The contracts of PlaceOf, of the model and of the program. Condition: the sentinel errors lie as the row lists them (the program's), the crate's length, and that the numbers fit their kinds.
-/
import Derived.Test.YtjiihdljchaeiadDoorBt
import Derived.Test.YtjiihdljchaeiadDoorFi
namespace Go.Proofs.YtjiihdljchaeiadDoor
open Go.ChangeShapes Go.WideShapes Go.ChangeAt Go.RowKit Go.Deep

/-- What PlaceOf answers. -/
def poV (a c : Int) : Value := .tuple #[.int .i64 a, .int .i64 c]

theorem placeOf1_any (B : Nat) (p q k y : Int) (w : World) (h0 : w.cell? ⟨B, 0, none⟩ = some (.int .u8 p)) (h1 : w.cell? ⟨B, 1, none⟩ = some (.int .i16 q)) :
    Calls Tryd.prog 32 #[.agg #[.int .u8 k, .int .i16 y], .pointer (some ⟨B, 0, none⟩)] w fun e w' => e = .returned (.bool (eqB (p, q) (k, y))) ∧ Below w.heap.size w w' := by
  have g0 := old_cell (.cells #[.int .u8 k, .int .i16 y] 26) h0
  have g1 := old_cell (.cells #[.int .u8 k, .int .i16 y] 26) h1
  go_enter Tryd.func32, Tryd.ntmps32
  go_wp2
  all_goals (go_ret; exact ⟨ret_bool (by simp [eqB, *]), (by repeat (first | exact Below.refl _ _ | refine Below.drew ?_ | refine Below.alloc ?_ (by simp <;> omega) _ | refine Below.setCell ?_ (by simp <;> omega) _))⟩)
theorem placeOf1_fits (n₀ : Nat) (w0 : World) (B : Nat) (p q : Int) (hB : B < n₀) (h0 : w0.cell? ⟨B, 0, none⟩ = some (.int .u8 p)) (h1 : w0.cell? ⟨B, 1, none⟩ = some (.int .i16 q)) :
    Fits Tryd.prog n₀ w0 32 #[.pointer (some ⟨B, 0, none⟩)] (eqB (p, q)) := fun b W _ hb =>
  placeOf1_any B p q b.1 b.2 W ((hb.cell (p := ⟨B, 0, none⟩) hB).trans h0) ((hb.cell (p := ⟨B, 1, none⟩) hB).trans h1)

set_option maxRecDepth 100000 in
set_option maxHeartbeats 1000000 in
theorem specPlace_bad0 (bs : List Bot) (hwf : WfC bs) (p q : Int) (hp : 0 ≤ p ∧ p ≤ 255) (hq : -32768 ≤ q ∧ q ≤ 32767) (hok : okC bs = false)  (w : World) : Calls Tryd.prog 17 #[.agg (ccells bs).toArray, .agg #[.int .u8 p, .int .i16 q]] w fun e w' => e = .returned (poV 0 1) ∧ Below w.heap.size w w' := by
  have HW := Lib.hid hwf
  have HP := Lib.hid hp
  have HQ := Lib.hid hq
  clear hwf hp hq
  have h1 : CBlk ((w.alloc (.cells (ccells bs).toArray 28)).alloc (.cells #[.int .u8 p, .int .i16 q] 26)) w.heap.size 28 bs := (CBlk.new w 28 bs).alloc _
  have h3 : CBlk ((w.alloc (.cells (ccells bs).toArray 28)).alloc (.cells #[.int .u8 p, .int .i16 q] 26)) (w.heap.size + 1) 26 [(p, q)] := CBlk.new' (by simp) rfl
  have h4 : Below w.heap.size w ((w.alloc (.cells (ccells bs).toArray 28)).alloc (.cells #[.int .u8 p, .int .i16 q] 26)) := (by repeat (first | exact Below.refl _ _ | refine Below.drew ?_ | refine Below.alloc ?_ (by simp <;> omega) _ | refine Below.setCell ?_ (by simp <;> omega) _))
  have H1 := Lib.hid h1
  have H3 := Lib.hid h3
  have H4 := Lib.hid h4
  clear h1 h3 h4
  go_enter Tryd.func17, Tryd.ntmps17
  go_wp2_with fail
  refine (l01Ok_any bs HW.out _ _ H1.out).mono ?_
  rintro e w1 ⟨rfl, hb1⟩
  have HB1 : Hid (Below w.heap.size w w1) := H4.out.trans (hb1.mono H4.out.size)
  have K1 : Hid (CBlk w1 w.heap.size 28 bs) := H1.out.below hb1 H1.out.lt
  have K3 : Hid (CBlk w1 (w.heap.size + 1) 26 [(p, q)]) := H3.out.below hb1 H3.out.lt
  clear hb1 H1 H3 H4
  rw [hok]
  go_wp2
  go_ret2
  exact ⟨rfl, HB1.out⟩

set_option maxRecDepth 100000 in
set_option maxHeartbeats 1000000 in
theorem specPlace_bad1 (bs : List Bot) (hwf : WfC bs) (p q : Int) (hp : 0 ≤ p ∧ p ≤ 255) (hq : -32768 ≤ q ∧ q ≤ 32767) (hok : okC bs = true) (hv : vB (p, q) = false)  (w : World) : Calls Tryd.prog 17 #[.agg (ccells bs).toArray, .agg #[.int .u8 p, .int .i16 q]] w fun e w' => e = .returned (poV 0 1) ∧ Below w.heap.size w w' := by
  have HW := Lib.hid hwf
  have HP := Lib.hid hp
  have HQ := Lib.hid hq
  clear hwf hp hq
  have h1 : CBlk ((w.alloc (.cells (ccells bs).toArray 28)).alloc (.cells #[.int .u8 p, .int .i16 q] 26)) w.heap.size 28 bs := (CBlk.new w 28 bs).alloc _
  have h3 : CBlk ((w.alloc (.cells (ccells bs).toArray 28)).alloc (.cells #[.int .u8 p, .int .i16 q] 26)) (w.heap.size + 1) 26 [(p, q)] := CBlk.new' (by simp) rfl
  have h4 : Below w.heap.size w ((w.alloc (.cells (ccells bs).toArray 28)).alloc (.cells #[.int .u8 p, .int .i16 q] 26)) := (by repeat (first | exact Below.refl _ _ | refine Below.drew ?_ | refine Below.alloc ?_ (by simp <;> omega) _ | refine Below.setCell ?_ (by simp <;> omega) _))
  have H1 := Lib.hid h1
  have H3 := Lib.hid h3
  have H4 := Lib.hid h4
  clear h1 h3 h4
  go_enter Tryd.func17, Tryd.ntmps17
  go_wp2_with fail
  refine (l01Ok_any bs HW.out _ _ H1.out).mono ?_
  rintro e w1 ⟨rfl, hb1⟩
  have HB1 : Hid (Below w.heap.size w w1) := H4.out.trans (hb1.mono H4.out.size)
  have K1 : Hid (CBlk w1 w.heap.size 28 bs) := H1.out.below hb1 H1.out.lt
  have K3 : Hid (CBlk w1 (w.heap.size + 1) 26 [(p, q)]) := H3.out.below hb1 H3.out.lt
  clear hb1 H1 H3 H4
  rw [hok]
  have b0 : w1.cell? ⟨w.heap.size + 1, 0, none⟩ = some (.int .u8 p) := K3.out.cell 0
  have b1 : w1.cell? ⟨w.heap.size + 1, 1, none⟩ = some (.int .i16 q) := K3.out.cell 1
  go_wp2_with fail
  refine (l01Bottle_any p q HP.out HQ.out _).mono ?_
  rintro e w2 ⟨rfl, hb2⟩
  have HB2 : Hid (Below w.heap.size w w2) := HB1.out.trans (hb2.mono HB1.out.size)
  have L1 : Hid (CBlk w2 w.heap.size 28 bs) := K1.out.below hb2 K1.out.lt
  have L3 : Hid (CBlk w2 (w.heap.size + 1) 26 [(p, q)]) := K3.out.below hb2 K3.out.lt
  clear hb2 b0 b1 K1 K3 HB1
  have K1 := L1
  have K3 := L3
  have HB1 := HB2
  clear L1 L3 HB2
  rw [hv]
  go_wp2
  go_ret2
  exact ⟨rfl, HB1.out⟩

set_option maxRecDepth 100000 in
set_option maxHeartbeats 1000000 in
theorem specPlace_hit (bs : List Bot) (hwf : WfC bs) (p q : Int) (hp : 0 ≤ p ∧ p ≤ 255) (hq : -32768 ≤ q ∧ q ≤ 32767) (hok : okC bs = true) (hv : vB (p, q) = true) (k : Nat) (hf : fp (eqB (p, q)) bs = k) (w : World) : Calls Tryd.prog 17 #[.agg (ccells bs).toArray, .agg #[.int .u8 p, .int .i16 q]] w fun e w' => e = .returned (poV k 0) ∧ Below w.heap.size w w' := by
  have HW := Lib.hid hwf
  have HP := Lib.hid hp
  have HQ := Lib.hid hq
  clear hwf hp hq
  have h1 : CBlk ((w.alloc (.cells (ccells bs).toArray 28)).alloc (.cells #[.int .u8 p, .int .i16 q] 26)) w.heap.size 28 bs := (CBlk.new w 28 bs).alloc _
  have h3 : CBlk ((w.alloc (.cells (ccells bs).toArray 28)).alloc (.cells #[.int .u8 p, .int .i16 q] 26)) (w.heap.size + 1) 26 [(p, q)] := CBlk.new' (by simp) rfl
  have h4 : Below w.heap.size w ((w.alloc (.cells (ccells bs).toArray 28)).alloc (.cells #[.int .u8 p, .int .i16 q] 26)) := (by repeat (first | exact Below.refl _ _ | refine Below.drew ?_ | refine Below.alloc ?_ (by simp <;> omega) _ | refine Below.setCell ?_ (by simp <;> omega) _))
  have H1 := Lib.hid h1
  have H3 := Lib.hid h3
  have H4 := Lib.hid h4
  clear h1 h3 h4
  go_enter Tryd.func17, Tryd.ntmps17
  go_wp2_with fail
  refine (l01Ok_any bs HW.out _ _ H1.out).mono ?_
  rintro e w1 ⟨rfl, hb1⟩
  have HB1 : Hid (Below w.heap.size w w1) := H4.out.trans (hb1.mono H4.out.size)
  have K1 : Hid (CBlk w1 w.heap.size 28 bs) := H1.out.below hb1 H1.out.lt
  have K3 : Hid (CBlk w1 (w.heap.size + 1) 26 [(p, q)]) := H3.out.below hb1 H3.out.lt
  clear hb1 H1 H3 H4
  rw [hok]
  have b0 : w1.cell? ⟨w.heap.size + 1, 0, none⟩ = some (.int .u8 p) := K3.out.cell 0
  have b1 : w1.cell? ⟨w.heap.size + 1, 1, none⟩ = some (.int .i16 q) := K3.out.cell 1
  go_wp2_with fail
  refine (l01Bottle_any p q HP.out HQ.out _).mono ?_
  rintro e w2 ⟨rfl, hb2⟩
  have HB2 : Hid (Below w.heap.size w w2) := HB1.out.trans (hb2.mono HB1.out.size)
  have L1 : Hid (CBlk w2 w.heap.size 28 bs) := K1.out.below hb2 K1.out.lt
  have L3 : Hid (CBlk w2 (w.heap.size + 1) 26 [(p, q)]) := K3.out.below hb2 K3.out.lt
  clear hb2 b0 b1 K1 K3 HB1
  have K1 := L1
  have K3 := L3
  have HB1 := HB2
  clear L1 L3 HB2
  rw [hv]
  have b0 : w2.cell? ⟨w.heap.size + 1, 0, none⟩ = some (.int .u8 p) := K3.out.cell 0
  have b1 : w2.cell? ⟨w.heap.size + 1, 1, none⟩ = some (.int .i16 q) := K3.out.cell 1
  go_wp2_with fail
  refine (l01First_any bs HW.out p q _ _ K1.out).mono ?_
  rintro e w3 ⟨rfl, hb3⟩
  have HB2 : Hid (Below w.heap.size w w3) := HB1.out.trans (hb3.mono HB1.out.size)
  clear hb3 b0 b1 K1 K3 HB1
  have HB1 := HB2
  clear HB2
  rw [hf]
  have hk0 : (0 : Int) ≤ k := by omega
  go_wp2
  go_ret2
  exact ⟨rfl, HB1.out⟩

set_option maxRecDepth 100000 in
set_option maxHeartbeats 1000000 in
theorem specPlace_none (bs : List Bot) (hwf : WfC bs) (p q : Int) (hp : 0 ≤ p ∧ p ≤ 255) (hq : -32768 ≤ q ∧ q ≤ 32767) (hok : okC bs = true) (hv : vB (p, q) = true) (hf : fp (eqB (p, q)) bs = -1) (w : World) : Calls Tryd.prog 17 #[.agg (ccells bs).toArray, .agg #[.int .u8 p, .int .i16 q]] w fun e w' => e = .returned (poV 0 6) ∧ Below w.heap.size w w' := by
  have HW := Lib.hid hwf
  have HP := Lib.hid hp
  have HQ := Lib.hid hq
  clear hwf hp hq
  have h1 : CBlk ((w.alloc (.cells (ccells bs).toArray 28)).alloc (.cells #[.int .u8 p, .int .i16 q] 26)) w.heap.size 28 bs := (CBlk.new w 28 bs).alloc _
  have h3 : CBlk ((w.alloc (.cells (ccells bs).toArray 28)).alloc (.cells #[.int .u8 p, .int .i16 q] 26)) (w.heap.size + 1) 26 [(p, q)] := CBlk.new' (by simp) rfl
  have h4 : Below w.heap.size w ((w.alloc (.cells (ccells bs).toArray 28)).alloc (.cells #[.int .u8 p, .int .i16 q] 26)) := (by repeat (first | exact Below.refl _ _ | refine Below.drew ?_ | refine Below.alloc ?_ (by simp <;> omega) _ | refine Below.setCell ?_ (by simp <;> omega) _))
  have H1 := Lib.hid h1
  have H3 := Lib.hid h3
  have H4 := Lib.hid h4
  clear h1 h3 h4
  go_enter Tryd.func17, Tryd.ntmps17
  go_wp2_with fail
  refine (l01Ok_any bs HW.out _ _ H1.out).mono ?_
  rintro e w1 ⟨rfl, hb1⟩
  have HB1 : Hid (Below w.heap.size w w1) := H4.out.trans (hb1.mono H4.out.size)
  have K1 : Hid (CBlk w1 w.heap.size 28 bs) := H1.out.below hb1 H1.out.lt
  have K3 : Hid (CBlk w1 (w.heap.size + 1) 26 [(p, q)]) := H3.out.below hb1 H3.out.lt
  clear hb1 H1 H3 H4
  rw [hok]
  have b0 : w1.cell? ⟨w.heap.size + 1, 0, none⟩ = some (.int .u8 p) := K3.out.cell 0
  have b1 : w1.cell? ⟨w.heap.size + 1, 1, none⟩ = some (.int .i16 q) := K3.out.cell 1
  go_wp2_with fail
  refine (l01Bottle_any p q HP.out HQ.out _).mono ?_
  rintro e w2 ⟨rfl, hb2⟩
  have HB2 : Hid (Below w.heap.size w w2) := HB1.out.trans (hb2.mono HB1.out.size)
  have L1 : Hid (CBlk w2 w.heap.size 28 bs) := K1.out.below hb2 K1.out.lt
  have L3 : Hid (CBlk w2 (w.heap.size + 1) 26 [(p, q)]) := K3.out.below hb2 K3.out.lt
  clear hb2 b0 b1 K1 K3 HB1
  have K1 := L1
  have K3 := L3
  have HB1 := HB2
  clear L1 L3 HB2
  rw [hv]
  have b0 : w2.cell? ⟨w.heap.size + 1, 0, none⟩ = some (.int .u8 p) := K3.out.cell 0
  have b1 : w2.cell? ⟨w.heap.size + 1, 1, none⟩ = some (.int .i16 q) := K3.out.cell 1
  go_wp2_with fail
  refine (l01First_any bs HW.out p q _ _ K1.out).mono ?_
  rintro e w3 ⟨rfl, hb3⟩
  have HB2 : Hid (Below w.heap.size w w3) := HB1.out.trans (hb3.mono HB1.out.size)
  clear hb3 b0 b1 K1 K3 HB1
  have HB1 := HB2
  clear HB2
  rw [hf]
  go_wp2
  go_ret2
  exact ⟨rfl, HB1.out⟩

set_option maxRecDepth 100000 in
set_option maxHeartbeats 1000000 in
theorem implPlace_bad00 (bs : List Bot) (hwf : WfC bs) (p q : Int) (hok : okC bs = false) (hv : vB (p, q) = false)  (ad : Nat → Addr) (w : World) (hE : EW 7 w ad) : Calls Tryd.prog 18 #[.agg (ccells bs).toArray, .agg #[.int .u8 p, .int .i16 q]] w fun e w' => e = .returned (poV 0 1) ∧ Below w.heap.size w w' := by
  have HW := Lib.hid hwf
  have HE := Lib.hid hE
  clear hwf hE
  have h1 : CBlk ((w.alloc (.cells (ccells bs).toArray 28)).alloc (.cells #[.int .u8 p, .int .i16 q] 26)) w.heap.size 28 bs := (CBlk.new w 28 bs).alloc _
  have h3 : CBlk ((w.alloc (.cells (ccells bs).toArray 28)).alloc (.cells #[.int .u8 p, .int .i16 q] 26)) (w.heap.size + 1) 26 [(p, q)] := CBlk.new' (by simp) rfl
  have h4 : Below w.heap.size w ((w.alloc (.cells (ccells bs).toArray 28)).alloc (.cells #[.int .u8 p, .int .i16 q] 26)) := (by repeat (first | exact Below.refl _ _ | refine Below.drew ?_ | refine Below.alloc ?_ (by simp <;> omega) _ | refine Below.setCell ?_ (by simp <;> omega) _))
  go_enter Tryd.func18, Tryd.ntmps18
  go_wp2_with fail
  obtain ⟨W0, hW0⟩ : ∃ W0, ((w.alloc (.cells (ccells bs).toArray 28)).alloc (.cells #[.int .u8 p, .int .i16 q] 26)) = W0 := ⟨_, rfl⟩
  rw [hW0] at h1 h3 h4 ⊢
  clear hW0
  have G1 := Lib.hid h1
  have G3 := Lib.hid h3
  have G4 := Lib.hid h4
  have hv0 : chkV ad (okC bs) = .iface 81 (.pointer (some (ad 5))) := by rw [hok]; rfl
  have hv1 : btV ad (p, q) = .iface 81 (.pointer (some (ad 5))) := by unfold btV; rw [hv]; rfl
  have V0 := Lib.hid hv0
  have V1 := Lib.hid hv1
  clear h1 h3 h4 hv0 hv1 hok hv
  refine wp_region_held_drew (S := fun w' => Below W0.heap.size W0 w') (by kernel_rfl) (Below.refl _ _).drew (fun hHeld => ?_)
  refine' wpAnyH_take (i := 0) (v := _) rfl (by kernel_rfl) (by kernel_rfl) (by kernel_rfl) (fun _ _ _ h => h) (yieldsIf_load_mid (by rfl) 28 (.tmp 2) rfl w.heap.size 0 rfl (ccells bs) _ (fun w h => CBlk.range (G1.out.below h G1.out.lt)) Tryd.underlying28 rfl (size_of_crate Tryd.sizeCr _ HW.out.1)) (by assumption) ?_
  refine' wpAnyH_take (i := 3) (v := _) rfl (by kernel_rfl) (by kernel_rfl) (by kernel_rfl) (fun _ _ _ h => h) (yieldsIf_load_mid (by rfl) 26 (.tmp 3) rfl (w.heap.size + 1) 0 rfl [.int .u8 p, .int .i16 q] _ (fun w h => CBlk.range (X := [(p, q)]) (G3.out.below h G3.out.lt)) Tryd.underlying26 rfl (size_of_bot Tryd.sizeBt (p, q))) (by assumption) ?_
  refine wpAnyH_ready (rs := [1]) (by kernel_rfl) (by simp) ?_
  refine AllReadyH.cons rfl (fun K hK => ?_) AllReadyH.nil
  refine if_wanted rfl (wp_oneCrate 60 28 (.tmp 9) rfl bs HW.out.1 rfl Tryd.underlying60 Tryd.sizeCr Tryd.zeroCr ?_)
  refine hK.out _ _ (hHeld.alloc hHeld.size _) (fun hHeld => ?_)
  clear hK K
  refine wpAnyH_ready (rs := [2]) (by kernel_rfl) (by simp) ?_
  refine AllReadyH.cons rfl (fun K hK => ?_) AllReadyH.nil
  refine if_wanted rfl ?_
  go_simp
  have hA : Below W0.heap.size W0 (W0.alloc (.cells (ccells bs).toArray 28)).drew := ((Below.refl _ W0).alloc (Nat.le_refl _) _).drew
  refine (checkOne_any bs HW.out W0.heap.size _ ad (W0.alloc (.cells (ccells bs).toArray 28)).drew (CBlk.new W0 28 bs) (HE.out.below (G4.out.trans (hA.mono G4.out.size)) (Nat.le_refl _))).mono ?_
  rintro e w1 ⟨rfl, hb1⟩
  have hB1 : Below W0.heap.size W0 w1 := hA.trans (hb1.mono hA.size)
  have B1 := Lib.hid hB1
  clear hA hb1 hHeld
  dsimp only
  rw [V0.out]
  refine hK.out _ _ hB1 (fun hHeld => ?_)
  clear hK K
  refine wpAnyH_ready (rs := [4]) (by kernel_rfl) (by simp) ?_
  refine AllReadyH.cons rfl (fun K hK => ?_) AllReadyH.nil
  refine if_wanted rfl ?_
  go_simp
  refine (checkBottle_any p q ad _ (HE.out.below (G4.out.trans (B1.out.mono G4.out.size)) (Nat.le_refl _))).mono ?_
  rintro e w2 ⟨rfl, hb2⟩
  have hB2 : Below W0.heap.size W0 w2 := B1.out.trans (hb2.mono B1.out.size)
  have B2 := Lib.hid hB2
  clear hB1 hb2 hHeld
  dsimp only
  rw [V1.out]
  refine hK.out _ _ hB2 (fun hHeld => ?_)
  clear hK K
  refine wpAnyH_ready (rs := [5]) (by kernel_rfl) (by simp) ?_
  refine AllReadyH.cons rfl (fun K hK => ?_) AllReadyH.nil
  refine if_wanted rfl ?_
  go_simp
  refine hK.out _ _ (B2.out.alloc B2.out.size _) (fun hHeld => ?_)
  clear hK K
  have q0 := new_cell2 w2 (.iface 81 (.pointer (some (ad 5)))) (.iface 81 (.pointer (some (ad 5)))) 49
  obtain ⟨W1, hW1⟩ : ∃ W1, w2.alloc (.cells #[.iface 81 (.pointer (some (ad 5))), .iface 81 (.pointer (some (ad 5)))] 49) = W1 := ⟨_, rfl⟩
  rw [hW1] at q0 hHeld ⊢
  have Q := Lib.hid q0
  have B3 := Lib.hid hHeld
  have L1 : Hid (CBlk W1 w.heap.size 28 bs) := G1.out.below hHeld G1.out.lt
  have L3 : Hid (CBlk W1 (w.heap.size + 1) 26 [(p, q)]) := G3.out.below hHeld G3.out.lt
  have HB2 : Hid (Below w.heap.size w W1) := G4.out.trans (hHeld.mono G4.out.size)
  clear q0 hW1 hB2 B1 B2 G1 G3 G4 V0 V1
  refine wpAnyH_ready (rs := [6]) (by kernel_rfl) (by simp) ?_
  refine AllReadyH.cons rfl (fun K hK => ?_) AllReadyH.nil
  refine if_wanted rfl ?_
  go_simp
  refine (first2_hit (ad 5) _ _ _ Q.out.1).mono ?_
  rintro e w3' ⟨rfl, rfl⟩
  dsimp only
  refine hK.out _ _ B3.out (fun hHeld => ?_)
  clear hK K
  refine wpAnyH_ready (rs := [7]) (by kernel_rfl) (by simp) ?_
  refine AllReadyH.cons rfl (fun K hK => ?_) AllReadyH.nil
  refine if_wanted rfl ?_
  refine wp_assign0 rfl rfl ?_
  refine hK.out _ _ B3.out (fun hHeld => ?_)
  clear hK K
  refine wpAnyH_done (by kernel_rfl) ?_ _
  clear Q B3 hHeld
  go_wp2_with fail
  refine (codeOf_5 (HE.out.below HB2.out (Nat.le_refl _))).mono ?_
  rintro e w3' ⟨rfl, rfl⟩
  go_wp2
  go_ret2
  exact ⟨rfl, HB2.out⟩

set_option maxRecDepth 100000 in
set_option maxHeartbeats 1000000 in
theorem implPlace_bad01 (bs : List Bot) (hwf : WfC bs) (p q : Int) (hok : okC bs = false) (hv : vB (p, q) = true)  (ad : Nat → Addr) (w : World) (hE : EW 7 w ad) : Calls Tryd.prog 18 #[.agg (ccells bs).toArray, .agg #[.int .u8 p, .int .i16 q]] w fun e w' => e = .returned (poV 0 1) ∧ Below w.heap.size w w' := by
  have HW := Lib.hid hwf
  have HE := Lib.hid hE
  clear hwf hE
  have h1 : CBlk ((w.alloc (.cells (ccells bs).toArray 28)).alloc (.cells #[.int .u8 p, .int .i16 q] 26)) w.heap.size 28 bs := (CBlk.new w 28 bs).alloc _
  have h3 : CBlk ((w.alloc (.cells (ccells bs).toArray 28)).alloc (.cells #[.int .u8 p, .int .i16 q] 26)) (w.heap.size + 1) 26 [(p, q)] := CBlk.new' (by simp) rfl
  have h4 : Below w.heap.size w ((w.alloc (.cells (ccells bs).toArray 28)).alloc (.cells #[.int .u8 p, .int .i16 q] 26)) := (by repeat (first | exact Below.refl _ _ | refine Below.drew ?_ | refine Below.alloc ?_ (by simp <;> omega) _ | refine Below.setCell ?_ (by simp <;> omega) _))
  go_enter Tryd.func18, Tryd.ntmps18
  go_wp2_with fail
  obtain ⟨W0, hW0⟩ : ∃ W0, ((w.alloc (.cells (ccells bs).toArray 28)).alloc (.cells #[.int .u8 p, .int .i16 q] 26)) = W0 := ⟨_, rfl⟩
  rw [hW0] at h1 h3 h4 ⊢
  clear hW0
  have G1 := Lib.hid h1
  have G3 := Lib.hid h3
  have G4 := Lib.hid h4
  have hv0 : chkV ad (okC bs) = .iface 81 (.pointer (some (ad 5))) := by rw [hok]; rfl
  have hv1 : btV ad (p, q) = .nilIface := by unfold btV; rw [hv]; rfl
  have V0 := Lib.hid hv0
  have V1 := Lib.hid hv1
  clear h1 h3 h4 hv0 hv1 hok hv
  refine wp_region_held_drew (S := fun w' => Below W0.heap.size W0 w') (by kernel_rfl) (Below.refl _ _).drew (fun hHeld => ?_)
  refine' wpAnyH_take (i := 0) (v := _) rfl (by kernel_rfl) (by kernel_rfl) (by kernel_rfl) (fun _ _ _ h => h) (yieldsIf_load_mid (by rfl) 28 (.tmp 2) rfl w.heap.size 0 rfl (ccells bs) _ (fun w h => CBlk.range (G1.out.below h G1.out.lt)) Tryd.underlying28 rfl (size_of_crate Tryd.sizeCr _ HW.out.1)) (by assumption) ?_
  refine' wpAnyH_take (i := 3) (v := _) rfl (by kernel_rfl) (by kernel_rfl) (by kernel_rfl) (fun _ _ _ h => h) (yieldsIf_load_mid (by rfl) 26 (.tmp 3) rfl (w.heap.size + 1) 0 rfl [.int .u8 p, .int .i16 q] _ (fun w h => CBlk.range (X := [(p, q)]) (G3.out.below h G3.out.lt)) Tryd.underlying26 rfl (size_of_bot Tryd.sizeBt (p, q))) (by assumption) ?_
  refine wpAnyH_ready (rs := [1]) (by kernel_rfl) (by simp) ?_
  refine AllReadyH.cons rfl (fun K hK => ?_) AllReadyH.nil
  refine if_wanted rfl (wp_oneCrate 60 28 (.tmp 9) rfl bs HW.out.1 rfl Tryd.underlying60 Tryd.sizeCr Tryd.zeroCr ?_)
  refine hK.out _ _ (hHeld.alloc hHeld.size _) (fun hHeld => ?_)
  clear hK K
  refine wpAnyH_ready (rs := [2]) (by kernel_rfl) (by simp) ?_
  refine AllReadyH.cons rfl (fun K hK => ?_) AllReadyH.nil
  refine if_wanted rfl ?_
  go_simp
  have hA : Below W0.heap.size W0 (W0.alloc (.cells (ccells bs).toArray 28)).drew := ((Below.refl _ W0).alloc (Nat.le_refl _) _).drew
  refine (checkOne_any bs HW.out W0.heap.size _ ad (W0.alloc (.cells (ccells bs).toArray 28)).drew (CBlk.new W0 28 bs) (HE.out.below (G4.out.trans (hA.mono G4.out.size)) (Nat.le_refl _))).mono ?_
  rintro e w1 ⟨rfl, hb1⟩
  have hB1 : Below W0.heap.size W0 w1 := hA.trans (hb1.mono hA.size)
  have B1 := Lib.hid hB1
  clear hA hb1 hHeld
  dsimp only
  rw [V0.out]
  refine hK.out _ _ hB1 (fun hHeld => ?_)
  clear hK K
  refine wpAnyH_ready (rs := [4]) (by kernel_rfl) (by simp) ?_
  refine AllReadyH.cons rfl (fun K hK => ?_) AllReadyH.nil
  refine if_wanted rfl ?_
  go_simp
  refine (checkBottle_any p q ad _ (HE.out.below (G4.out.trans (B1.out.mono G4.out.size)) (Nat.le_refl _))).mono ?_
  rintro e w2 ⟨rfl, hb2⟩
  have hB2 : Below W0.heap.size W0 w2 := B1.out.trans (hb2.mono B1.out.size)
  have B2 := Lib.hid hB2
  clear hB1 hb2 hHeld
  dsimp only
  rw [V1.out]
  refine hK.out _ _ hB2 (fun hHeld => ?_)
  clear hK K
  refine wpAnyH_ready (rs := [5]) (by kernel_rfl) (by simp) ?_
  refine AllReadyH.cons rfl (fun K hK => ?_) AllReadyH.nil
  refine if_wanted rfl ?_
  go_simp
  refine hK.out _ _ (B2.out.alloc B2.out.size _) (fun hHeld => ?_)
  clear hK K
  have q0 := new_cell2 w2 (.iface 81 (.pointer (some (ad 5)))) (.nilIface) 49
  obtain ⟨W1, hW1⟩ : ∃ W1, w2.alloc (.cells #[.iface 81 (.pointer (some (ad 5))), .nilIface] 49) = W1 := ⟨_, rfl⟩
  rw [hW1] at q0 hHeld ⊢
  have Q := Lib.hid q0
  have B3 := Lib.hid hHeld
  have L1 : Hid (CBlk W1 w.heap.size 28 bs) := G1.out.below hHeld G1.out.lt
  have L3 : Hid (CBlk W1 (w.heap.size + 1) 26 [(p, q)]) := G3.out.below hHeld G3.out.lt
  have HB2 : Hid (Below w.heap.size w W1) := G4.out.trans (hHeld.mono G4.out.size)
  clear q0 hW1 hB2 B1 B2 G1 G3 G4 V0 V1
  refine wpAnyH_ready (rs := [6]) (by kernel_rfl) (by simp) ?_
  refine AllReadyH.cons rfl (fun K hK => ?_) AllReadyH.nil
  refine if_wanted rfl ?_
  go_simp
  refine (first2_hit (ad 5) _ _ _ Q.out.1).mono ?_
  rintro e w3' ⟨rfl, rfl⟩
  dsimp only
  refine hK.out _ _ B3.out (fun hHeld => ?_)
  clear hK K
  refine wpAnyH_ready (rs := [7]) (by kernel_rfl) (by simp) ?_
  refine AllReadyH.cons rfl (fun K hK => ?_) AllReadyH.nil
  refine if_wanted rfl ?_
  refine wp_assign0 rfl rfl ?_
  refine hK.out _ _ B3.out (fun hHeld => ?_)
  clear hK K
  refine wpAnyH_done (by kernel_rfl) ?_ _
  clear Q B3 hHeld
  go_wp2_with fail
  refine (codeOf_5 (HE.out.below HB2.out (Nat.le_refl _))).mono ?_
  rintro e w3' ⟨rfl, rfl⟩
  go_wp2
  go_ret2
  exact ⟨rfl, HB2.out⟩

set_option maxRecDepth 100000 in
set_option maxHeartbeats 1000000 in
theorem implPlace_bad1 (bs : List Bot) (hwf : WfC bs) (p q : Int) (hok : okC bs = true) (hv : vB (p, q) = false)  (ad : Nat → Addr) (w : World) (hE : EW 7 w ad) : Calls Tryd.prog 18 #[.agg (ccells bs).toArray, .agg #[.int .u8 p, .int .i16 q]] w fun e w' => e = .returned (poV 0 1) ∧ Below w.heap.size w w' := by
  have HW := Lib.hid hwf
  have HE := Lib.hid hE
  clear hwf hE
  have h1 : CBlk ((w.alloc (.cells (ccells bs).toArray 28)).alloc (.cells #[.int .u8 p, .int .i16 q] 26)) w.heap.size 28 bs := (CBlk.new w 28 bs).alloc _
  have h3 : CBlk ((w.alloc (.cells (ccells bs).toArray 28)).alloc (.cells #[.int .u8 p, .int .i16 q] 26)) (w.heap.size + 1) 26 [(p, q)] := CBlk.new' (by simp) rfl
  have h4 : Below w.heap.size w ((w.alloc (.cells (ccells bs).toArray 28)).alloc (.cells #[.int .u8 p, .int .i16 q] 26)) := (by repeat (first | exact Below.refl _ _ | refine Below.drew ?_ | refine Below.alloc ?_ (by simp <;> omega) _ | refine Below.setCell ?_ (by simp <;> omega) _))
  go_enter Tryd.func18, Tryd.ntmps18
  go_wp2_with fail
  obtain ⟨W0, hW0⟩ : ∃ W0, ((w.alloc (.cells (ccells bs).toArray 28)).alloc (.cells #[.int .u8 p, .int .i16 q] 26)) = W0 := ⟨_, rfl⟩
  rw [hW0] at h1 h3 h4 ⊢
  clear hW0
  have G1 := Lib.hid h1
  have G3 := Lib.hid h3
  have G4 := Lib.hid h4
  have hv0 : chkV ad (okC bs) = .nilIface := by rw [hok]; rfl
  have hv1 : btV ad (p, q) = .iface 81 (.pointer (some (ad 5))) := by unfold btV; rw [hv]; rfl
  have V0 := Lib.hid hv0
  have V1 := Lib.hid hv1
  clear h1 h3 h4 hv0 hv1 hok hv
  refine wp_region_held_drew (S := fun w' => Below W0.heap.size W0 w') (by kernel_rfl) (Below.refl _ _).drew (fun hHeld => ?_)
  refine' wpAnyH_take (i := 0) (v := _) rfl (by kernel_rfl) (by kernel_rfl) (by kernel_rfl) (fun _ _ _ h => h) (yieldsIf_load_mid (by rfl) 28 (.tmp 2) rfl w.heap.size 0 rfl (ccells bs) _ (fun w h => CBlk.range (G1.out.below h G1.out.lt)) Tryd.underlying28 rfl (size_of_crate Tryd.sizeCr _ HW.out.1)) (by assumption) ?_
  refine' wpAnyH_take (i := 3) (v := _) rfl (by kernel_rfl) (by kernel_rfl) (by kernel_rfl) (fun _ _ _ h => h) (yieldsIf_load_mid (by rfl) 26 (.tmp 3) rfl (w.heap.size + 1) 0 rfl [.int .u8 p, .int .i16 q] _ (fun w h => CBlk.range (X := [(p, q)]) (G3.out.below h G3.out.lt)) Tryd.underlying26 rfl (size_of_bot Tryd.sizeBt (p, q))) (by assumption) ?_
  refine wpAnyH_ready (rs := [1]) (by kernel_rfl) (by simp) ?_
  refine AllReadyH.cons rfl (fun K hK => ?_) AllReadyH.nil
  refine if_wanted rfl (wp_oneCrate 60 28 (.tmp 9) rfl bs HW.out.1 rfl Tryd.underlying60 Tryd.sizeCr Tryd.zeroCr ?_)
  refine hK.out _ _ (hHeld.alloc hHeld.size _) (fun hHeld => ?_)
  clear hK K
  refine wpAnyH_ready (rs := [2]) (by kernel_rfl) (by simp) ?_
  refine AllReadyH.cons rfl (fun K hK => ?_) AllReadyH.nil
  refine if_wanted rfl ?_
  go_simp
  have hA : Below W0.heap.size W0 (W0.alloc (.cells (ccells bs).toArray 28)).drew := ((Below.refl _ W0).alloc (Nat.le_refl _) _).drew
  refine (checkOne_any bs HW.out W0.heap.size _ ad (W0.alloc (.cells (ccells bs).toArray 28)).drew (CBlk.new W0 28 bs) (HE.out.below (G4.out.trans (hA.mono G4.out.size)) (Nat.le_refl _))).mono ?_
  rintro e w1 ⟨rfl, hb1⟩
  have hB1 : Below W0.heap.size W0 w1 := hA.trans (hb1.mono hA.size)
  have B1 := Lib.hid hB1
  clear hA hb1 hHeld
  dsimp only
  rw [V0.out]
  refine hK.out _ _ hB1 (fun hHeld => ?_)
  clear hK K
  refine wpAnyH_ready (rs := [4]) (by kernel_rfl) (by simp) ?_
  refine AllReadyH.cons rfl (fun K hK => ?_) AllReadyH.nil
  refine if_wanted rfl ?_
  go_simp
  refine (checkBottle_any p q ad _ (HE.out.below (G4.out.trans (B1.out.mono G4.out.size)) (Nat.le_refl _))).mono ?_
  rintro e w2 ⟨rfl, hb2⟩
  have hB2 : Below W0.heap.size W0 w2 := B1.out.trans (hb2.mono B1.out.size)
  have B2 := Lib.hid hB2
  clear hB1 hb2 hHeld
  dsimp only
  rw [V1.out]
  refine hK.out _ _ hB2 (fun hHeld => ?_)
  clear hK K
  refine wpAnyH_ready (rs := [5]) (by kernel_rfl) (by simp) ?_
  refine AllReadyH.cons rfl (fun K hK => ?_) AllReadyH.nil
  refine if_wanted rfl ?_
  go_simp
  refine hK.out _ _ (B2.out.alloc B2.out.size _) (fun hHeld => ?_)
  clear hK K
  have q0 := new_cell2 w2 (.nilIface) (.iface 81 (.pointer (some (ad 5)))) 49
  obtain ⟨W1, hW1⟩ : ∃ W1, w2.alloc (.cells #[.nilIface, .iface 81 (.pointer (some (ad 5)))] 49) = W1 := ⟨_, rfl⟩
  rw [hW1] at q0 hHeld ⊢
  have Q := Lib.hid q0
  have B3 := Lib.hid hHeld
  have L1 : Hid (CBlk W1 w.heap.size 28 bs) := G1.out.below hHeld G1.out.lt
  have L3 : Hid (CBlk W1 (w.heap.size + 1) 26 [(p, q)]) := G3.out.below hHeld G3.out.lt
  have HB2 : Hid (Below w.heap.size w W1) := G4.out.trans (hHeld.mono G4.out.size)
  clear q0 hW1 hB2 B1 B2 G1 G3 G4 V0 V1
  refine wpAnyH_ready (rs := [6]) (by kernel_rfl) (by simp) ?_
  refine AllReadyH.cons rfl (fun K hK => ?_) AllReadyH.nil
  refine if_wanted rfl ?_
  go_simp
  refine (first2_second (ad 5) _ _ _ Q.out.1 Q.out.2).mono ?_
  rintro e w3' ⟨rfl, rfl⟩
  dsimp only
  refine hK.out _ _ B3.out (fun hHeld => ?_)
  clear hK K
  refine wpAnyH_ready (rs := [7]) (by kernel_rfl) (by simp) ?_
  refine AllReadyH.cons rfl (fun K hK => ?_) AllReadyH.nil
  refine if_wanted rfl ?_
  refine wp_assign0 rfl rfl ?_
  refine hK.out _ _ B3.out (fun hHeld => ?_)
  clear hK K
  refine wpAnyH_done (by kernel_rfl) ?_ _
  clear Q B3 hHeld
  go_wp2_with fail
  refine (codeOf_5 (HE.out.below HB2.out (Nat.le_refl _))).mono ?_
  rintro e w3' ⟨rfl, rfl⟩
  go_wp2
  go_ret2
  exact ⟨rfl, HB2.out⟩

set_option maxRecDepth 100000 in
set_option maxHeartbeats 1000000 in
theorem implPlace_hit (bs : List Bot) (hwf : WfC bs) (p q : Int) (hok : okC bs = true) (hv : vB (p, q) = true) (k : Nat) (hf : fp (eqB (p, q)) bs = k) (ad : Nat → Addr) (w : World) (hE : EW 7 w ad) : Calls Tryd.prog 18 #[.agg (ccells bs).toArray, .agg #[.int .u8 p, .int .i16 q]] w fun e w' => e = .returned (poV k 0) ∧ Below w.heap.size w w' := by
  have HW := Lib.hid hwf
  have HE := Lib.hid hE
  clear hwf hE
  have h1 : CBlk ((w.alloc (.cells (ccells bs).toArray 28)).alloc (.cells #[.int .u8 p, .int .i16 q] 26)) w.heap.size 28 bs := (CBlk.new w 28 bs).alloc _
  have h3 : CBlk ((w.alloc (.cells (ccells bs).toArray 28)).alloc (.cells #[.int .u8 p, .int .i16 q] 26)) (w.heap.size + 1) 26 [(p, q)] := CBlk.new' (by simp) rfl
  have h4 : Below w.heap.size w ((w.alloc (.cells (ccells bs).toArray 28)).alloc (.cells #[.int .u8 p, .int .i16 q] 26)) := (by repeat (first | exact Below.refl _ _ | refine Below.drew ?_ | refine Below.alloc ?_ (by simp <;> omega) _ | refine Below.setCell ?_ (by simp <;> omega) _))
  go_enter Tryd.func18, Tryd.ntmps18
  go_wp2_with fail
  obtain ⟨W0, hW0⟩ : ∃ W0, ((w.alloc (.cells (ccells bs).toArray 28)).alloc (.cells #[.int .u8 p, .int .i16 q] 26)) = W0 := ⟨_, rfl⟩
  rw [hW0] at h1 h3 h4 ⊢
  clear hW0
  have G1 := Lib.hid h1
  have G3 := Lib.hid h3
  have G4 := Lib.hid h4
  have hv0 : chkV ad (okC bs) = .nilIface := by rw [hok]; rfl
  have hv1 : btV ad (p, q) = .nilIface := by unfold btV; rw [hv]; rfl
  have V0 := Lib.hid hv0
  have V1 := Lib.hid hv1
  clear h1 h3 h4 hv0 hv1 hok hv
  refine wp_region_held_drew (S := fun w' => Below W0.heap.size W0 w') (by kernel_rfl) (Below.refl _ _).drew (fun hHeld => ?_)
  refine' wpAnyH_take (i := 0) (v := _) rfl (by kernel_rfl) (by kernel_rfl) (by kernel_rfl) (fun _ _ _ h => h) (yieldsIf_load_mid (by rfl) 28 (.tmp 2) rfl w.heap.size 0 rfl (ccells bs) _ (fun w h => CBlk.range (G1.out.below h G1.out.lt)) Tryd.underlying28 rfl (size_of_crate Tryd.sizeCr _ HW.out.1)) (by assumption) ?_
  refine' wpAnyH_take (i := 3) (v := _) rfl (by kernel_rfl) (by kernel_rfl) (by kernel_rfl) (fun _ _ _ h => h) (yieldsIf_load_mid (by rfl) 26 (.tmp 3) rfl (w.heap.size + 1) 0 rfl [.int .u8 p, .int .i16 q] _ (fun w h => CBlk.range (X := [(p, q)]) (G3.out.below h G3.out.lt)) Tryd.underlying26 rfl (size_of_bot Tryd.sizeBt (p, q))) (by assumption) ?_
  refine wpAnyH_ready (rs := [1]) (by kernel_rfl) (by simp) ?_
  refine AllReadyH.cons rfl (fun K hK => ?_) AllReadyH.nil
  refine if_wanted rfl (wp_oneCrate 60 28 (.tmp 9) rfl bs HW.out.1 rfl Tryd.underlying60 Tryd.sizeCr Tryd.zeroCr ?_)
  refine hK.out _ _ (hHeld.alloc hHeld.size _) (fun hHeld => ?_)
  clear hK K
  refine wpAnyH_ready (rs := [2]) (by kernel_rfl) (by simp) ?_
  refine AllReadyH.cons rfl (fun K hK => ?_) AllReadyH.nil
  refine if_wanted rfl ?_
  go_simp
  have hA : Below W0.heap.size W0 (W0.alloc (.cells (ccells bs).toArray 28)).drew := ((Below.refl _ W0).alloc (Nat.le_refl _) _).drew
  refine (checkOne_any bs HW.out W0.heap.size _ ad (W0.alloc (.cells (ccells bs).toArray 28)).drew (CBlk.new W0 28 bs) (HE.out.below (G4.out.trans (hA.mono G4.out.size)) (Nat.le_refl _))).mono ?_
  rintro e w1 ⟨rfl, hb1⟩
  have hB1 : Below W0.heap.size W0 w1 := hA.trans (hb1.mono hA.size)
  have B1 := Lib.hid hB1
  clear hA hb1 hHeld
  dsimp only
  rw [V0.out]
  refine hK.out _ _ hB1 (fun hHeld => ?_)
  clear hK K
  refine wpAnyH_ready (rs := [4]) (by kernel_rfl) (by simp) ?_
  refine AllReadyH.cons rfl (fun K hK => ?_) AllReadyH.nil
  refine if_wanted rfl ?_
  go_simp
  refine (checkBottle_any p q ad _ (HE.out.below (G4.out.trans (B1.out.mono G4.out.size)) (Nat.le_refl _))).mono ?_
  rintro e w2 ⟨rfl, hb2⟩
  have hB2 : Below W0.heap.size W0 w2 := B1.out.trans (hb2.mono B1.out.size)
  have B2 := Lib.hid hB2
  clear hB1 hb2 hHeld
  dsimp only
  rw [V1.out]
  refine hK.out _ _ hB2 (fun hHeld => ?_)
  clear hK K
  refine wpAnyH_ready (rs := [5]) (by kernel_rfl) (by simp) ?_
  refine AllReadyH.cons rfl (fun K hK => ?_) AllReadyH.nil
  refine if_wanted rfl ?_
  go_simp
  refine hK.out _ _ (B2.out.alloc B2.out.size _) (fun hHeld => ?_)
  clear hK K
  have q0 := new_cell2 w2 (.nilIface) (.nilIface) 49
  obtain ⟨W1, hW1⟩ : ∃ W1, w2.alloc (.cells #[.nilIface, .nilIface] 49) = W1 := ⟨_, rfl⟩
  rw [hW1] at q0 hHeld ⊢
  have Q := Lib.hid q0
  have B3 := Lib.hid hHeld
  have L1 : Hid (CBlk W1 w.heap.size 28 bs) := G1.out.below hHeld G1.out.lt
  have L3 : Hid (CBlk W1 (w.heap.size + 1) 26 [(p, q)]) := G3.out.below hHeld G3.out.lt
  have HB2 : Hid (Below w.heap.size w W1) := G4.out.trans (hHeld.mono G4.out.size)
  clear q0 hW1 hB2 B1 B2 G1 G3 G4 V0 V1
  refine wpAnyH_ready (rs := [6]) (by kernel_rfl) (by simp) ?_
  refine AllReadyH.cons rfl (fun K hK => ?_) AllReadyH.nil
  refine if_wanted rfl ?_
  go_simp
  refine (first2_none _ _ _ Q.out.1 Q.out.2).mono ?_
  rintro e w3' ⟨rfl, rfl⟩
  dsimp only
  refine hK.out _ _ B3.out (fun hHeld => ?_)
  clear hK K
  refine wpAnyH_ready (rs := [7]) (by kernel_rfl) (by simp) ?_
  refine AllReadyH.cons rfl (fun K hK => ?_) AllReadyH.nil
  refine if_wanted rfl ?_
  refine wp_assign0 rfl rfl ?_
  refine hK.out _ _ B3.out (fun hHeld => ?_)
  clear hK K
  refine wpAnyH_done (by kernel_rfl) ?_ _
  clear Q B3 hHeld
  have hF := placeOf1_fits W1.heap.size W1 (w.heap.size + 1) p q L3.out.lt (L3.out.cell 0) (L3.out.cell 1)
  have HF := Lib.hid hF
  clear hF
  go_wp2_with (refine wpList_load_row rfl 28 (.tmp 2) rfl w.heap.size rfl 28 _ (0, 0) _ L1.out Tryd.underlying28 rfl (size_of_crate Tryd.sizeCr _ HW.out.1) ?_)
  refine (callsIn_wide.1 (firstPlace_in 6 (Nat.le_refl _) bs HW.out (eqB (p, q)) 32 #[.pointer (some ⟨w.heap.size + 1, 0, none⟩)] (enters_of Tryd.func32 (by kernel_rfl) rfl) ad _ ((HE.out.below HB2.out (Nat.le_refl _)).less (by omega)) HF.out)).mono ?_
  rintro e w4 ⟨rfl, hb4⟩
  have HB4 : Hid (Below w.heap.size w w4) := HB2.out.trans (hb4.mono HB2.out.size)
  clear hb4
  rw [fpV_hit hf]
  go_wp2_with fail
  refine (codeOf_nil _).mono ?_
  rintro e w5 ⟨rfl, rfl⟩
  go_wp2
  go_ret2
  exact ⟨rfl, HB4.out⟩

set_option maxRecDepth 100000 in
set_option maxHeartbeats 1000000 in
theorem implPlace_none (bs : List Bot) (hwf : WfC bs) (p q : Int) (hok : okC bs = true) (hv : vB (p, q) = true) (hf : fp (eqB (p, q)) bs = -1) (ad : Nat → Addr) (w : World) (hE : EW 7 w ad) : Calls Tryd.prog 18 #[.agg (ccells bs).toArray, .agg #[.int .u8 p, .int .i16 q]] w fun e w' => e = .returned (poV 0 6) ∧ Below w.heap.size w w' := by
  have HW := Lib.hid hwf
  have HE := Lib.hid hE
  clear hwf hE
  have h1 : CBlk ((w.alloc (.cells (ccells bs).toArray 28)).alloc (.cells #[.int .u8 p, .int .i16 q] 26)) w.heap.size 28 bs := (CBlk.new w 28 bs).alloc _
  have h3 : CBlk ((w.alloc (.cells (ccells bs).toArray 28)).alloc (.cells #[.int .u8 p, .int .i16 q] 26)) (w.heap.size + 1) 26 [(p, q)] := CBlk.new' (by simp) rfl
  have h4 : Below w.heap.size w ((w.alloc (.cells (ccells bs).toArray 28)).alloc (.cells #[.int .u8 p, .int .i16 q] 26)) := (by repeat (first | exact Below.refl _ _ | refine Below.drew ?_ | refine Below.alloc ?_ (by simp <;> omega) _ | refine Below.setCell ?_ (by simp <;> omega) _))
  go_enter Tryd.func18, Tryd.ntmps18
  go_wp2_with fail
  obtain ⟨W0, hW0⟩ : ∃ W0, ((w.alloc (.cells (ccells bs).toArray 28)).alloc (.cells #[.int .u8 p, .int .i16 q] 26)) = W0 := ⟨_, rfl⟩
  rw [hW0] at h1 h3 h4 ⊢
  clear hW0
  have G1 := Lib.hid h1
  have G3 := Lib.hid h3
  have G4 := Lib.hid h4
  have hv0 : chkV ad (okC bs) = .nilIface := by rw [hok]; rfl
  have hv1 : btV ad (p, q) = .nilIface := by unfold btV; rw [hv]; rfl
  have V0 := Lib.hid hv0
  have V1 := Lib.hid hv1
  clear h1 h3 h4 hv0 hv1 hok hv
  refine wp_region_held_drew (S := fun w' => Below W0.heap.size W0 w') (by kernel_rfl) (Below.refl _ _).drew (fun hHeld => ?_)
  refine' wpAnyH_take (i := 0) (v := _) rfl (by kernel_rfl) (by kernel_rfl) (by kernel_rfl) (fun _ _ _ h => h) (yieldsIf_load_mid (by rfl) 28 (.tmp 2) rfl w.heap.size 0 rfl (ccells bs) _ (fun w h => CBlk.range (G1.out.below h G1.out.lt)) Tryd.underlying28 rfl (size_of_crate Tryd.sizeCr _ HW.out.1)) (by assumption) ?_
  refine' wpAnyH_take (i := 3) (v := _) rfl (by kernel_rfl) (by kernel_rfl) (by kernel_rfl) (fun _ _ _ h => h) (yieldsIf_load_mid (by rfl) 26 (.tmp 3) rfl (w.heap.size + 1) 0 rfl [.int .u8 p, .int .i16 q] _ (fun w h => CBlk.range (X := [(p, q)]) (G3.out.below h G3.out.lt)) Tryd.underlying26 rfl (size_of_bot Tryd.sizeBt (p, q))) (by assumption) ?_
  refine wpAnyH_ready (rs := [1]) (by kernel_rfl) (by simp) ?_
  refine AllReadyH.cons rfl (fun K hK => ?_) AllReadyH.nil
  refine if_wanted rfl (wp_oneCrate 60 28 (.tmp 9) rfl bs HW.out.1 rfl Tryd.underlying60 Tryd.sizeCr Tryd.zeroCr ?_)
  refine hK.out _ _ (hHeld.alloc hHeld.size _) (fun hHeld => ?_)
  clear hK K
  refine wpAnyH_ready (rs := [2]) (by kernel_rfl) (by simp) ?_
  refine AllReadyH.cons rfl (fun K hK => ?_) AllReadyH.nil
  refine if_wanted rfl ?_
  go_simp
  have hA : Below W0.heap.size W0 (W0.alloc (.cells (ccells bs).toArray 28)).drew := ((Below.refl _ W0).alloc (Nat.le_refl _) _).drew
  refine (checkOne_any bs HW.out W0.heap.size _ ad (W0.alloc (.cells (ccells bs).toArray 28)).drew (CBlk.new W0 28 bs) (HE.out.below (G4.out.trans (hA.mono G4.out.size)) (Nat.le_refl _))).mono ?_
  rintro e w1 ⟨rfl, hb1⟩
  have hB1 : Below W0.heap.size W0 w1 := hA.trans (hb1.mono hA.size)
  have B1 := Lib.hid hB1
  clear hA hb1 hHeld
  dsimp only
  rw [V0.out]
  refine hK.out _ _ hB1 (fun hHeld => ?_)
  clear hK K
  refine wpAnyH_ready (rs := [4]) (by kernel_rfl) (by simp) ?_
  refine AllReadyH.cons rfl (fun K hK => ?_) AllReadyH.nil
  refine if_wanted rfl ?_
  go_simp
  refine (checkBottle_any p q ad _ (HE.out.below (G4.out.trans (B1.out.mono G4.out.size)) (Nat.le_refl _))).mono ?_
  rintro e w2 ⟨rfl, hb2⟩
  have hB2 : Below W0.heap.size W0 w2 := B1.out.trans (hb2.mono B1.out.size)
  have B2 := Lib.hid hB2
  clear hB1 hb2 hHeld
  dsimp only
  rw [V1.out]
  refine hK.out _ _ hB2 (fun hHeld => ?_)
  clear hK K
  refine wpAnyH_ready (rs := [5]) (by kernel_rfl) (by simp) ?_
  refine AllReadyH.cons rfl (fun K hK => ?_) AllReadyH.nil
  refine if_wanted rfl ?_
  go_simp
  refine hK.out _ _ (B2.out.alloc B2.out.size _) (fun hHeld => ?_)
  clear hK K
  have q0 := new_cell2 w2 (.nilIface) (.nilIface) 49
  obtain ⟨W1, hW1⟩ : ∃ W1, w2.alloc (.cells #[.nilIface, .nilIface] 49) = W1 := ⟨_, rfl⟩
  rw [hW1] at q0 hHeld ⊢
  have Q := Lib.hid q0
  have B3 := Lib.hid hHeld
  have L1 : Hid (CBlk W1 w.heap.size 28 bs) := G1.out.below hHeld G1.out.lt
  have L3 : Hid (CBlk W1 (w.heap.size + 1) 26 [(p, q)]) := G3.out.below hHeld G3.out.lt
  have HB2 : Hid (Below w.heap.size w W1) := G4.out.trans (hHeld.mono G4.out.size)
  clear q0 hW1 hB2 B1 B2 G1 G3 G4 V0 V1
  refine wpAnyH_ready (rs := [6]) (by kernel_rfl) (by simp) ?_
  refine AllReadyH.cons rfl (fun K hK => ?_) AllReadyH.nil
  refine if_wanted rfl ?_
  go_simp
  refine (first2_none _ _ _ Q.out.1 Q.out.2).mono ?_
  rintro e w3' ⟨rfl, rfl⟩
  dsimp only
  refine hK.out _ _ B3.out (fun hHeld => ?_)
  clear hK K
  refine wpAnyH_ready (rs := [7]) (by kernel_rfl) (by simp) ?_
  refine AllReadyH.cons rfl (fun K hK => ?_) AllReadyH.nil
  refine if_wanted rfl ?_
  refine wp_assign0 rfl rfl ?_
  refine hK.out _ _ B3.out (fun hHeld => ?_)
  clear hK K
  refine wpAnyH_done (by kernel_rfl) ?_ _
  clear Q B3 hHeld
  have hF := placeOf1_fits W1.heap.size W1 (w.heap.size + 1) p q L3.out.lt (L3.out.cell 0) (L3.out.cell 1)
  have HF := Lib.hid hF
  clear hF
  go_wp2_with (refine wpList_load_row rfl 28 (.tmp 2) rfl w.heap.size rfl 28 _ (0, 0) _ L1.out Tryd.underlying28 rfl (size_of_crate Tryd.sizeCr _ HW.out.1) ?_)
  refine (callsIn_wide.1 (firstPlace_in 6 (Nat.le_refl _) bs HW.out (eqB (p, q)) 32 #[.pointer (some ⟨w.heap.size + 1, 0, none⟩)] (enters_of Tryd.func32 (by kernel_rfl) rfl) ad _ ((HE.out.below HB2.out (Nat.le_refl _)).less (by omega)) HF.out)).mono ?_
  rintro e w4 ⟨rfl, hb4⟩
  have HB4 : Hid (Below w.heap.size w w4) := HB2.out.trans (hb4.mono HB2.out.size)
  clear hb4
  rw [fpV_none hf, errV]
  go_wp2_with fail
  refine (codeOf_4 ((HE.out.below HB4.out (Nat.le_refl _)).less (by omega))).mono ?_
  rintro e w3' ⟨rfl, rfl⟩
  go_wp2
  go_ret2
  exact ⟨rfl, HB4.out⟩
end Go.Proofs.YtjiihdljchaeiadDoor
