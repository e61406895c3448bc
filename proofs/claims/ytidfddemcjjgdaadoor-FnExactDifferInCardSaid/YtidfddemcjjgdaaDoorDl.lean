/-
  FnExactDifferIn: for all crates the law returns true, and its arguments read as before. No condition but that the sentinel errors hold what the program's text lays (tied).
-/
import Derived.Test.YtidfddemcjjgdaaDoorCards
import Derived.Test.YtidfddemcjjgdaaDoorTie
import Derived.Test.YtidfddemcjjgdaaDoorG
import Derived.Test.YtidfddemcjjgdaaDoorEi
import Derived.Test.YtidfddemcjjgdaaDoorDg
import Derived.SevenTiedAt
namespace Go.Proofs.YtidfddemcjjgdaaDoor
open Go.ChangeShapes Go.WideShapes Go.ChangeAt Go.RowKit Go.Deep

theorem own_keep {W W' : World} {base : Nat} {e : TypeId} {size : Nat} {v : Value} {k : Nat} {xs : List Value} (h : W.ownsRow base e size v k xs) (hb : Below W.heap.size W W') : W'.ownsRow base e size v k xs := h.kept (grown_of_below hb) (Classical.em _)
set_option maxRecDepth 100000 in
set_option maxHeartbeats 4000000 in
theorem dfLaw_any (cs bs : List Bot) (hwa : WfC cs) (hwb : WfC bs) (ad : Nat → Addr) (w : World) (hE : EW 7 w ad) : Calls Tryd.prog 5 #[.agg (ccells cs).toArray, .agg (ccells bs).toArray] w (Good w) := by
  have HW := Lib.hid hwa
  have HW2 := Lib.hid hwb
  have HE := Lib.hid hE
  clear hwa hwb hE
  have h1 : CBlk ((w.alloc (.cells (ccells cs).toArray 25)).alloc (.cells (ccells bs).toArray 25)) w.heap.size 25 cs := (CBlk.new w 25 cs).alloc _
  have h2 : CBlk ((w.alloc (.cells (ccells cs).toArray 25)).alloc (.cells (ccells bs).toArray 25)) (w.heap.size + 1) 25 bs := CBlk.new' (by simp) rfl
  have h3 : Below w.heap.size w ((w.alloc (.cells (ccells cs).toArray 25)).alloc (.cells (ccells bs).toArray 25)) := (by repeat (first | exact Below.refl _ _ | refine Below.drew ?_ | refine Below.alloc ?_ (by simp <;> omega) _ | refine Below.setCell ?_ (by simp <;> omega) _))
  obtain ⟨W0, hW0⟩ : ∃ W0, (w.alloc (.cells (ccells cs).toArray 25)).alloc (.cells (ccells bs).toArray 25) = W0 := ⟨_, rfl⟩
  rw [hW0] at h1 h2 h3
  have HL0 := Lib.hid h1
  have HM0 := Lib.hid h2
  have HB0 := Lib.hid h3
  have hlen := diL_len cs bs
  clear h1 h2 h3
  go_enter Tryd.func5, Tryd.ntmps5
  go_wp2_with fail
  clear hW0
  obtain ⟨N, hN⟩ : ∃ N, diL cs bs = N := ⟨_, rfl⟩
  obtain ⟨cd, hcd⟩ : ∃ cd, diC cs bs = cd := ⟨_, rfl⟩
  have HS : Hid (∀ w, Calls Tryd.prog 25 #[.agg (ccells cs).toArray, .agg (ccells bs).toArray] w fun e w' => ∃ v, e = .returned (.tuple #[v, .int .i64 cd]) ∧ w'.ownsRow w.heap.size 2 1 v N.length (nats N) ∧ Below w.heap.size w w') := by
    have := fun w => specDiffer_any cs bs HW.out HW2.out w
    rw [hN, hcd] at this; exact this
  have HI : Hid (∀ w, EW 7 w ad → Calls Tryd.prog 26 #[.agg (ccells cs).toArray, .agg (ccells bs).toArray] w fun e w' => ∃ v, e = .returned (.tuple #[v, .int .i64 cd]) ∧ w'.ownsRow w.heap.size 2 1 v N.length (nats N) ∧ Below w.heap.size w w') := by
    have := fun w hE => implDiffer_any cs bs HW.out HW2.out ad w hE
    rw [hN, hcd] at this; exact this
  rw [hN] at hlen
  clear hN hcd
  refine wp_region_held_drew (S := fun w' => Below W0.heap.size W0 w') (by kernel_rfl) (Below.refl _ _).drew (fun hHeld => ?_)
  refine' wpAnyH_take (i := 0) (v := _) rfl (by kernel_rfl) (by kernel_rfl) (by kernel_rfl) (fun _ _ _ h => h) (yieldsIf_load_mid (by rfl) 25 (.tmp 2) rfl w.heap.size 0 rfl (ccells cs) _ (fun w h => CBlk.range (HL0.out.below h HL0.out.lt)) Tryd.underlying25 rfl (size_of_crate Tryd.sizeLc _ HW.out.1)) (by assumption) ?_
  try simp only [Act.put, List.getElem_toArray, List.getElem_cons_zero, List.getElem_cons_succ, List.setIfInBounds_toArray, List.set_cons_zero, List.set_cons_succ]
  refine' wpAnyH_take (i := 2) (v := _) rfl (by kernel_rfl) (by kernel_rfl) (by kernel_rfl) (fun _ _ _ h => h) (yieldsIf_load_mid (by rfl) 25 (.tmp 3) rfl (w.heap.size + 1) 0 rfl (ccells bs) _ (fun w h => CBlk.range (HM0.out.below h HM0.out.lt)) Tryd.underlying25 rfl (size_of_crate Tryd.sizeLc _ HW2.out.1)) (by assumption) ?_
  try simp only [Act.put, List.getElem_toArray, List.getElem_cons_zero, List.getElem_cons_succ, List.setIfInBounds_toArray, List.set_cons_zero, List.set_cons_succ]
  obtain ⟨D0, hD0⟩ : ∃ D0, W0.drew = D0 := ⟨_, rfl⟩
  rw [hD0] at hHeld ⊢
  clear hD0
  refine wpAnyH_ready (rs := [1]) (by kernel_rfl) (by simp) ?_
  refine AllReadyH.cons rfl (fun K hK => ?_) AllReadyH.nil
  refine if_wanted rfl ?_
  go_simp
  refine (toCrate_any cs HW.out.1 _).mono ?_
  rintro e y1 ⟨rfl, hb⟩
  have hH2 : Below W0.heap.size W0 y1 := hHeld.trans (hb.mono hHeld.size)
  clear hb hHeld
  dsimp only
  refine hK.out _ _ hH2 (fun hHeld => ?_)
  clear hK K hH2
  try simp only [Act.put, List.getElem_toArray, List.getElem_cons_zero, List.getElem_cons_succ, List.setIfInBounds_toArray, List.set_cons_zero, List.set_cons_succ]
  refine wpAnyH_ready (rs := [3]) (by kernel_rfl) (by simp) ?_
  refine AllReadyH.cons rfl (fun K hK => ?_) AllReadyH.nil
  refine if_wanted rfl ?_
  go_simp
  refine (toCrate_any bs HW2.out.1 _).mono ?_
  rintro e y2 ⟨rfl, hb⟩
  have hH2 : Below W0.heap.size W0 y2 := hHeld.trans (hb.mono hHeld.size)
  clear hb hHeld
  dsimp only
  refine hK.out _ _ hH2 (fun hHeld => ?_)
  clear hK K hH2
  try simp only [Act.put, List.getElem_toArray, List.getElem_cons_zero, List.getElem_cons_succ, List.setIfInBounds_toArray, List.set_cons_zero, List.set_cons_succ]
  refine wpAnyH_ready (rs := [4]) (by kernel_rfl) (by simp) ?_
  refine AllReadyH.cons rfl (fun K hK => ?_) AllReadyH.nil
  refine if_wanted rfl ?_
  go_simp
  refine (HS.out _).mono ?_
  rintro e w1 ⟨v0, rfl, hr, hb⟩
  have hH2 : Below W0.heap.size W0 w1 := hHeld.trans (hb.mono hHeld.size)
  have hbase := hHeld.size
  clear hb hHeld
  dsimp only
  refine hK.out _ _ hH2 (fun hHeld => ?_)
  clear hK K hH2
  try simp only [Act.put, List.getElem_toArray, List.getElem_cons_zero, List.getElem_cons_succ, List.setIfInBounds_toArray, List.set_cons_zero, List.set_cons_succ]
  refine wpAnyH_take (i := 5) (v := .tuple #[v0, .int .i64 cd]) rfl (by kernel_rfl) (by kernel_rfl) (by kernel_rfl) (fun _ _ _ h => h) (Or.inl ⟨by rfl, fun w' h => by go_simp⟩) (by assumption) ?_
  try simp only [Act.put, List.getElem_toArray, List.getElem_cons_zero, List.getElem_cons_succ, List.setIfInBounds_toArray, List.set_cons_zero, List.set_cons_succ]
  refine wpAnyH_take (i := 6) (v := v0) rfl (by kernel_rfl) (by kernel_rfl) (by kernel_rfl) (fun _ _ _ h => h) (Or.inl ⟨by rfl, fun w' h => by go_simp⟩) (by assumption) ?_
  try simp only [Act.put, List.getElem_toArray, List.getElem_cons_zero, List.getElem_cons_succ, List.setIfInBounds_toArray, List.set_cons_zero, List.set_cons_succ]
  refine wpAnyH_take (i := 7) (v := .int .i64 cd) rfl (by kernel_rfl) (by kernel_rfl) (by kernel_rfl) (fun _ _ _ h => h) (Or.inl ⟨by rfl, fun w' h => by go_simp⟩) (by assumption) ?_
  try simp only [Act.put, List.getElem_toArray, List.getElem_cons_zero, List.getElem_cons_succ, List.setIfInBounds_toArray, List.set_cons_zero, List.set_cons_succ]
  refine wpAnyH_ready (rs := [8]) (by kernel_rfl) (by simp) ?_
  refine AllReadyH.cons rfl (fun K hK => ?_) AllReadyH.nil
  refine if_wanted rfl ?_
  refine wp_assign0 rfl rfl ?_
  refine hK.out _ _ hHeld (fun hHeld => ?_)
  clear hK K
  try simp only [Act.put, List.getElem_toArray, List.getElem_cons_zero, List.getElem_cons_succ, List.setIfInBounds_toArray, List.set_cons_zero, List.set_cons_succ]
  refine wpAnyH_ready (rs := [9]) (by kernel_rfl) (by simp) ?_
  refine AllReadyH.cons rfl (fun K hK => ?_) AllReadyH.nil
  refine if_wanted rfl ?_
  refine wp_assign0 rfl rfl ?_
  refine hK.out _ _ hHeld (fun hHeld => ?_)
  clear hK K
  try simp only [Act.put, List.getElem_toArray, List.getElem_cons_zero, List.getElem_cons_succ, List.setIfInBounds_toArray, List.set_cons_zero, List.set_cons_succ]
  refine wpAnyH_done (by kernel_rfl) ?_ _
  try simp only [Act.put, List.getElem_toArray, List.getElem_cons_zero, List.getElem_cons_succ, List.setIfInBounds_toArray, List.set_cons_zero, List.set_cons_succ]
  have hb := hHeld
  clear hHeld
  have HB1 : Hid (Below w.heap.size w w1) := HB0.out.trans (hb.mono HB0.out.size)
  have HL1 : Hid (CBlk w1 w.heap.size 25 cs) := HL0.out.below hb HL0.out.lt
  have HM1 : Hid (CBlk w1 (w.heap.size + 1) 25 bs) := HM0.out.below hb HM0.out.lt
  clear hb
  clear HB0
  clear HL0
  clear HM0
  have HV1 := Lib.hid hr
  clear hr hbase
  have HBa := HB1
  have HLa := HL1
  have HMa := HM1
  have HVa := HV1
  go_wp2_with fail
  refine wp_region_held_drew (S := fun w' => Below w1.heap.size w1 w') (by kernel_rfl) (Below.refl _ _).drew (fun hHeld => ?_)
  refine' wpAnyH_take (i := 0) (v := _) rfl (by kernel_rfl) (by kernel_rfl) (by kernel_rfl) (fun _ _ _ h => h) (yieldsIf_load_mid (by rfl) 25 (.tmp 2) rfl w.heap.size 0 rfl (ccells cs) _ (fun w h => CBlk.range (HL1.out.below h HL1.out.lt)) Tryd.underlying25 rfl (size_of_crate Tryd.sizeLc _ HW.out.1)) (by assumption) ?_
  try simp only [Act.put, List.getElem_toArray, List.getElem_cons_zero, List.getElem_cons_succ, List.setIfInBounds_toArray, List.set_cons_zero, List.set_cons_succ]
  refine' wpAnyH_take (i := 2) (v := _) rfl (by kernel_rfl) (by kernel_rfl) (by kernel_rfl) (fun _ _ _ h => h) (yieldsIf_load_mid (by rfl) 25 (.tmp 3) rfl (w.heap.size + 1) 0 rfl (ccells bs) _ (fun w h => CBlk.range (HM1.out.below h HM1.out.lt)) Tryd.underlying25 rfl (size_of_crate Tryd.sizeLc _ HW2.out.1)) (by assumption) ?_
  try simp only [Act.put, List.getElem_toArray, List.getElem_cons_zero, List.getElem_cons_succ, List.setIfInBounds_toArray, List.set_cons_zero, List.set_cons_succ]
  obtain ⟨D0, hD0⟩ : ∃ D0, w1.drew = D0 := ⟨_, rfl⟩
  rw [hD0] at hHeld ⊢
  clear hD0
  refine wpAnyH_ready (rs := [1]) (by kernel_rfl) (by simp) ?_
  refine AllReadyH.cons rfl (fun K hK => ?_) AllReadyH.nil
  refine if_wanted rfl ?_
  go_simp
  refine (toCrate_any cs HW.out.1 _).mono ?_
  rintro e z1 ⟨rfl, hb⟩
  have hH2 : Below w1.heap.size w1 z1 := hHeld.trans (hb.mono hHeld.size)
  clear hb hHeld
  dsimp only
  refine hK.out _ _ hH2 (fun hHeld => ?_)
  clear hK K hH2
  try simp only [Act.put, List.getElem_toArray, List.getElem_cons_zero, List.getElem_cons_succ, List.setIfInBounds_toArray, List.set_cons_zero, List.set_cons_succ]
  refine wpAnyH_ready (rs := [3]) (by kernel_rfl) (by simp) ?_
  refine AllReadyH.cons rfl (fun K hK => ?_) AllReadyH.nil
  refine if_wanted rfl ?_
  go_simp
  refine (toCrate_any bs HW2.out.1 _).mono ?_
  rintro e z2 ⟨rfl, hb⟩
  have hH2 : Below w1.heap.size w1 z2 := hHeld.trans (hb.mono hHeld.size)
  clear hb hHeld
  dsimp only
  refine hK.out _ _ hH2 (fun hHeld => ?_)
  clear hK K hH2
  try simp only [Act.put, List.getElem_toArray, List.getElem_cons_zero, List.getElem_cons_succ, List.setIfInBounds_toArray, List.set_cons_zero, List.set_cons_succ]
  refine wpAnyH_ready (rs := [4]) (by kernel_rfl) (by simp) ?_
  refine AllReadyH.cons rfl (fun K hK => ?_) AllReadyH.nil
  refine if_wanted rfl ?_
  go_simp
  refine (HI.out _ (HE.out.below (HB1.out.trans (hHeld.mono HB1.out.size)) (Nat.le_refl _))).mono ?_
  rintro e w2 ⟨g0, rfl, hr, hb⟩
  have hH2 : Below w1.heap.size w1 w2 := hHeld.trans (hb.mono hHeld.size)
  have hbase := hHeld.size
  clear hb hHeld
  dsimp only
  refine hK.out _ _ hH2 (fun hHeld => ?_)
  clear hK K hH2
  try simp only [Act.put, List.getElem_toArray, List.getElem_cons_zero, List.getElem_cons_succ, List.setIfInBounds_toArray, List.set_cons_zero, List.set_cons_succ]
  refine wpAnyH_take (i := 5) (v := .tuple #[g0, .int .i64 cd]) rfl (by kernel_rfl) (by kernel_rfl) (by kernel_rfl) (fun _ _ _ h => h) (Or.inl ⟨by rfl, fun w' h => by go_simp⟩) (by assumption) ?_
  try simp only [Act.put, List.getElem_toArray, List.getElem_cons_zero, List.getElem_cons_succ, List.setIfInBounds_toArray, List.set_cons_zero, List.set_cons_succ]
  refine wpAnyH_take (i := 6) (v := g0) rfl (by kernel_rfl) (by kernel_rfl) (by kernel_rfl) (fun _ _ _ h => h) (Or.inl ⟨by rfl, fun w' h => by go_simp⟩) (by assumption) ?_
  try simp only [Act.put, List.getElem_toArray, List.getElem_cons_zero, List.getElem_cons_succ, List.setIfInBounds_toArray, List.set_cons_zero, List.set_cons_succ]
  refine wpAnyH_take (i := 7) (v := .int .i64 cd) rfl (by kernel_rfl) (by kernel_rfl) (by kernel_rfl) (fun _ _ _ h => h) (Or.inl ⟨by rfl, fun w' h => by go_simp⟩) (by assumption) ?_
  try simp only [Act.put, List.getElem_toArray, List.getElem_cons_zero, List.getElem_cons_succ, List.setIfInBounds_toArray, List.set_cons_zero, List.set_cons_succ]
  refine wpAnyH_ready (rs := [8]) (by kernel_rfl) (by simp) ?_
  refine AllReadyH.cons rfl (fun K hK => ?_) AllReadyH.nil
  refine if_wanted rfl ?_
  refine wp_assign0 rfl rfl ?_
  refine hK.out _ _ hHeld (fun hHeld => ?_)
  clear hK K
  try simp only [Act.put, List.getElem_toArray, List.getElem_cons_zero, List.getElem_cons_succ, List.setIfInBounds_toArray, List.set_cons_zero, List.set_cons_succ]
  refine wpAnyH_ready (rs := [9]) (by kernel_rfl) (by simp) ?_
  refine AllReadyH.cons rfl (fun K hK => ?_) AllReadyH.nil
  refine if_wanted rfl ?_
  refine wp_assign0 rfl rfl ?_
  refine hK.out _ _ hHeld (fun hHeld => ?_)
  clear hK K
  try simp only [Act.put, List.getElem_toArray, List.getElem_cons_zero, List.getElem_cons_succ, List.setIfInBounds_toArray, List.set_cons_zero, List.set_cons_succ]
  refine wpAnyH_done (by kernel_rfl) ?_ _
  try simp only [Act.put, List.getElem_toArray, List.getElem_cons_zero, List.getElem_cons_succ, List.setIfInBounds_toArray, List.set_cons_zero, List.set_cons_succ]
  have hb := hHeld
  clear hHeld
  have hH12 : Below w1.heap.size w1 w2 := hb
  have HB2 : Hid (Below w.heap.size w w2) := HB1.out.trans (hb.mono HB1.out.size)
  have HL2 : Hid (CBlk w2 w.heap.size 25 cs) := HL1.out.below hb HL1.out.lt
  have HM2 : Hid (CBlk w2 (w.heap.size + 1) 25 bs) := HM1.out.below hb HM1.out.lt
  have HV2 : Hid (w2.ownsRow y2.heap.size 2 1 v0 N.length (nats N)) := own_keep HV1.out hb
  clear hb
  clear HB1
  clear HL1
  clear HM1
  clear HV1
  have HG2 := Lib.hid hr
  have H12 := Lib.hid hH12
  have hgb : w1.heap.size ≤ z2.heap.size := hbase
  have HGB := Lib.hid hgb
  clear hr hbase hgb hH12
  go_wp2_with fail
  refine (eqI_same N _ _ _ _ _ (by omega) HG2.out HV2.out).mono ?_
  rintro e w3 ⟨rfl, hb⟩
  have H13 : Hid (Below w1.heap.size w1 w3) := H12.out.trans (hb.mono H12.out.size)
  have HB3 : Hid (Below w.heap.size w w3) := HB2.out.trans (hb.mono HB2.out.size)
  have HL3 : Hid (CBlk w3 w.heap.size 25 cs) := HL2.out.below hb HL2.out.lt
  have HM3 : Hid (CBlk w3 (w.heap.size + 1) 25 bs) := HM2.out.below hb HM2.out.lt
  have HV3 : Hid (w3.ownsRow y2.heap.size 2 1 v0 N.length (nats N)) := own_keep HV2.out hb
  have HG3 : Hid (w3.ownsRow z2.heap.size 2 1 g0 N.length (nats N)) := own_keep HG2.out hb
  clear hb
  clear HB2
  clear HL2
  clear HM2
  clear HV2
  clear HG2
  have HGr : Hid (w3.ownsRow w1.heap.size 2 1 g0 N.length (nats N)) := own_base2 HG3.out HGB.out
  clear HG3
  obtain ⟨A, c, rfl, -⟩ := own_read (nats_len N) HGr.out
  have hn0 : (0 : Int) ≤ N.length := Int.natCast_nonneg _
  go_wp2_with fail
  refine (markI_any N.length w1.heap.size A c _ _ (by omega) HGr.out H13.out.size).mono ?_
  rintro e w4 ⟨rfl, hM, hb⟩
  have HM4 := Lib.hid hM
  have H14 : Hid (Below w1.heap.size w1 w4) := H13.out.trans hb
  have hb := H14.out
  have hbx := hb
  have HB9 : Hid (Below w.heap.size w w4) := by have h0 := HBa.out; exact h0.trans (hb.mono h0.size)
  have HL9 : Hid (CBlk w4 w.heap.size 25 cs) := HLa.out.below hb HLa.out.lt
  have HM9 : Hid (CBlk w4 (w.heap.size + 1) 25 bs) := HMa.out.below hb HMa.out.lt
  have HV9 : Hid (w4.ownsRow y2.heap.size 2 1 v0 N.length (nats N)) := own_keep HVa.out hb
  clear hb hM hbx HB3 HL3 HM3 HV3 HBa HLa HMa HVa HGr H12 H13 H14
  have hn1 : ¬ (1 + (N.length : Int) < 0) := by omega
  go_wp2_with fail
  refine (heldI_any N.length A c _ (by omega) HM4.out).mono ?_
  rintro e w4' ⟨rfl, rfl⟩
  go_wp2_with fail
  refine wp_region_held_drew (S := fun w' => Below w4.heap.size w4 w') (by kernel_rfl) (Below.refl _ _).drew (fun hHeld => ?_)
  refine' wpAnyH_take (i := 0) (v := _) rfl (by kernel_rfl) (by kernel_rfl) (by kernel_rfl) (fun _ _ _ h => h) (yieldsIf_load_mid (by rfl) 25 (.tmp 2) rfl w.heap.size 0 rfl (ccells cs) _ (fun w h => CBlk.range (HL9.out.below h HL9.out.lt)) Tryd.underlying25 rfl (size_of_crate Tryd.sizeLc _ HW.out.1)) (by assumption) ?_
  try simp only [Act.put, List.getElem_toArray, List.getElem_cons_zero, List.getElem_cons_succ, List.setIfInBounds_toArray, List.set_cons_zero, List.set_cons_succ]
  refine' wpAnyH_take (i := 2) (v := _) rfl (by kernel_rfl) (by kernel_rfl) (by kernel_rfl) (fun _ _ _ h => h) (yieldsIf_load_mid (by rfl) 25 (.tmp 3) rfl (w.heap.size + 1) 0 rfl (ccells bs) _ (fun w h => CBlk.range (HM9.out.below h HM9.out.lt)) Tryd.underlying25 rfl (size_of_crate Tryd.sizeLc _ HW2.out.1)) (by assumption) ?_
  try simp only [Act.put, List.getElem_toArray, List.getElem_cons_zero, List.getElem_cons_succ, List.setIfInBounds_toArray, List.set_cons_zero, List.set_cons_succ]
  obtain ⟨D0, hD0⟩ : ∃ D0, w4.drew = D0 := ⟨_, rfl⟩
  rw [hD0] at hHeld ⊢
  clear hD0
  refine wpAnyH_ready (rs := [1]) (by kernel_rfl) (by simp) ?_
  refine AllReadyH.cons rfl (fun K hK => ?_) AllReadyH.nil
  refine if_wanted rfl ?_
  go_simp
  refine (toCrate_any cs HW.out.1 _).mono ?_
  rintro e u1 ⟨rfl, hb⟩
  have hH2 : Below w4.heap.size w4 u1 := hHeld.trans (hb.mono hHeld.size)
  clear hb hHeld
  dsimp only
  refine hK.out _ _ hH2 (fun hHeld => ?_)
  clear hK K hH2
  try simp only [Act.put, List.getElem_toArray, List.getElem_cons_zero, List.getElem_cons_succ, List.setIfInBounds_toArray, List.set_cons_zero, List.set_cons_succ]
  refine wpAnyH_ready (rs := [3]) (by kernel_rfl) (by simp) ?_
  refine AllReadyH.cons rfl (fun K hK => ?_) AllReadyH.nil
  refine if_wanted rfl ?_
  go_simp
  refine (toCrate_any bs HW2.out.1 _).mono ?_
  rintro e u2 ⟨rfl, hb⟩
  have hH2 : Below w4.heap.size w4 u2 := hHeld.trans (hb.mono hHeld.size)
  clear hb hHeld
  dsimp only
  refine hK.out _ _ hH2 (fun hHeld => ?_)
  clear hK K hH2
  try simp only [Act.put, List.getElem_toArray, List.getElem_cons_zero, List.getElem_cons_succ, List.setIfInBounds_toArray, List.set_cons_zero, List.set_cons_succ]
  refine wpAnyH_ready (rs := [4]) (by kernel_rfl) (by simp) ?_
  refine AllReadyH.cons rfl (fun K hK => ?_) AllReadyH.nil
  refine if_wanted rfl ?_
  go_simp
  refine (HI.out _ (HE.out.below (HB9.out.trans (hHeld.mono HB9.out.size)) (Nat.le_refl _))).mono ?_
  rintro e w5 ⟨h0, rfl, hr, hb⟩
  have hH2 : Below w4.heap.size w4 w5 := hHeld.trans (hb.mono hHeld.size)
  have hbase := hHeld.size
  clear hb hHeld
  dsimp only
  refine hK.out _ _ hH2 (fun hHeld => ?_)
  clear hK K hH2
  try simp only [Act.put, List.getElem_toArray, List.getElem_cons_zero, List.getElem_cons_succ, List.setIfInBounds_toArray, List.set_cons_zero, List.set_cons_succ]
  refine wpAnyH_take (i := 5) (v := .tuple #[h0, .int .i64 cd]) rfl (by kernel_rfl) (by kernel_rfl) (by kernel_rfl) (fun _ _ _ h => h) (Or.inl ⟨by rfl, fun w' h => by go_simp⟩) (by assumption) ?_
  try simp only [Act.put, List.getElem_toArray, List.getElem_cons_zero, List.getElem_cons_succ, List.setIfInBounds_toArray, List.set_cons_zero, List.set_cons_succ]
  refine wpAnyH_take (i := 6) (v := h0) rfl (by kernel_rfl) (by kernel_rfl) (by kernel_rfl) (fun _ _ _ h => h) (Or.inl ⟨by rfl, fun w' h => by go_simp⟩) (by assumption) ?_
  try simp only [Act.put, List.getElem_toArray, List.getElem_cons_zero, List.getElem_cons_succ, List.setIfInBounds_toArray, List.set_cons_zero, List.set_cons_succ]
  refine wpAnyH_take (i := 7) (v := .int .i64 cd) rfl (by kernel_rfl) (by kernel_rfl) (by kernel_rfl) (fun _ _ _ h => h) (Or.inl ⟨by rfl, fun w' h => by go_simp⟩) (by assumption) ?_
  try simp only [Act.put, List.getElem_toArray, List.getElem_cons_zero, List.getElem_cons_succ, List.setIfInBounds_toArray, List.set_cons_zero, List.set_cons_succ]
  refine wpAnyH_ready (rs := [8]) (by kernel_rfl) (by simp) ?_
  refine AllReadyH.cons rfl (fun K hK => ?_) AllReadyH.nil
  refine if_wanted rfl ?_
  refine wp_assign0 rfl rfl ?_
  refine hK.out _ _ hHeld (fun hHeld => ?_)
  clear hK K
  try simp only [Act.put, List.getElem_toArray, List.getElem_cons_zero, List.getElem_cons_succ, List.setIfInBounds_toArray, List.set_cons_zero, List.set_cons_succ]
  refine wpAnyH_ready (rs := [9]) (by kernel_rfl) (by simp) ?_
  refine AllReadyH.cons rfl (fun K hK => ?_) AllReadyH.nil
  refine if_wanted rfl ?_
  refine wp_assign0 rfl rfl ?_
  refine hK.out _ _ hHeld (fun hHeld => ?_)
  clear hK K
  try simp only [Act.put, List.getElem_toArray, List.getElem_cons_zero, List.getElem_cons_succ, List.setIfInBounds_toArray, List.set_cons_zero, List.set_cons_succ]
  refine wpAnyH_done (by kernel_rfl) ?_ _
  try simp only [Act.put, List.getElem_toArray, List.getElem_cons_zero, List.getElem_cons_succ, List.setIfInBounds_toArray, List.set_cons_zero, List.set_cons_succ]
  have hb := hHeld
  clear hHeld
  have HM5 := Lib.hid (HM4.out.below hb)
  have HB10 : Hid (Below w.heap.size w w5) := HB9.out.trans (hb.mono HB9.out.size)
  have HL10 : Hid (CBlk w5 w.heap.size 25 cs) := HL9.out.below hb HL9.out.lt
  have HM10 : Hid (CBlk w5 (w.heap.size + 1) 25 bs) := HM9.out.below hb HM9.out.lt
  have HV10 : Hid (w5.ownsRow y2.heap.size 2 1 v0 N.length (nats N)) := own_keep HV9.out hb
  clear hb
  clear HB9
  clear HL9
  clear HM9
  clear HV9
  have HG10 := Lib.hid hr
  clear hr hbase
  go_wp2_with fail
  refine (eqI_same N _ _ _ _ _ (by omega) HG10.out HV10.out).mono ?_
  rintro e w6 ⟨rfl, hb⟩
  have HM6 := Lib.hid (HM5.out.below hb)
  have HB11 : Hid (Below w.heap.size w w6) := HB10.out.trans (hb.mono HB10.out.size)
  have HL11 : Hid (CBlk w6 w.heap.size 25 cs) := HL10.out.below hb HL10.out.lt
  have HM11 : Hid (CBlk w6 (w.heap.size + 1) 25 bs) := HM10.out.below hb HM10.out.lt
  have HV11 : Hid (w6.ownsRow y2.heap.size 2 1 v0 N.length (nats N)) := own_keep HV10.out hb
  have HG11 : Hid (w6.ownsRow u2.heap.size 2 1 h0 N.length (nats N)) := own_keep HG10.out hb
  clear hb
  clear HB10
  clear HL10
  clear HM10
  clear HV10
  clear HG10
  go_wp2_with fail
  refine (heldI_any N.length A c _ (by omega) HM6.out).mono ?_
  rintro e w6' ⟨rfl, rfl⟩
  go_wp2
  go_ret
  exact ⟨rfl, HB11.out⟩

set_option maxRecDepth 100000 in
theorem fnExactDifferIn_lifted (os : Os) (started : os.Started) (H : Type) (enc : TypeId × Value → H) :
    ReturnsInHanded {} Tryd.checked os 5 .any (fun w args => (Rows.fnExactDifferInSpec.pre enc Tryd.prog Tryd.f5 Rows.fnExactDifferInRow.domain false w args ∧ laidMetH Tryd.prog (lay sl7) w) ∧ sizedMet enc Tryd.prog Tryd.f5 (OpenSpec.ofChange Rows.fnExactDifferInSpec) false w args)
      (Rows.fnExactDifferInSpec.post enc Tryd.prog Tryd.f5 false true false false) := by
  refine law_liftL (C := Tryd.checked) 2 7 Tryd.own started (by kernel_rfl) Tryd.func5
    (ChangeSpec.witness_shaped (enc := enc) (C := Tryd.checked) (os := os) (X := fun w _ => laidMetH Tryd.prog (lay sl7) w) false (World.doorLaid Tryd.prog 157 os) #[.agg #[.int .u8 0, .int .i16 0, .int .u8 0, .int .i16 0, .int .u8 0, .int .i16 0, .int .u8 0, .int .i16 0, .int .u8 0, .int .i16 0, .int .u8 0, .int .i16 0, .int .u8 0, .int .i16 0, .int .u8 0, .int .i16 0, .int .u8 0, .int .i16 0, .int .u8 0, .int .i16 0, .int .u8 0, .int .i16 0, .int .u8 0, .int .i16 0], .agg #[.int .u8 0, .int .i16 0, .int .u8 0, .int .i16 0, .int .u8 0, .int .i16 0, .int .u8 0, .int .i16 0, .int .u8 0, .int .i16 0, .int .u8 0, .int .i16 0, .int .u8 0, .int .i16 0, .int .u8 0, .int .i16 0, .int .u8 0, .int .i16 0, .int .u8 0, .int .i16 0, .int .u8 0, .int .i16 0, .int .u8 0, .int .i16 0]] 8 rfl (World.shaped_of_RefB (by kernel_rfl) (by kernel_rfl)) (by kernel_rfl) (by kernel_rfl) (by kernel_rfl)
      (laidMetH_of_parts3 (fuel := 8) (laidMet_of_run' 8 (by kernel_rfl) (by kernel_rfl)) (by kernel_rfl) (by kernel_rfl)))
    Tryd.laidOut (by kernel_rfl) rfl (by kernel_rfl) Tryd.underlying4 (by kernel_rfl) (by kernel_rfl)
    (fun ds gs h h' => by match ds, gs, h, h' with | [d1, d2], [g1, g2, g3, g4, g5, g6, g7], _, _ => rfl) ?_
  intro W base args ds p hL hval hA
  rw [Tryd.params5] at hA hval
  obtain ⟨v0, v1, d0, d1, p0, p1, rfl, rfl, rfl, h0, h1⟩ := trodAll_two hA
  obtain ⟨cs, hl, rfl, hwf⟩ := open_crate (n := 12) Tryd.underlying25 (by kernel_rfl) Tryd.underlying24 Tryd.underlying5 Tryd.underlying22 (by kernel_rfl) (by kernel_rfl) (hval 0 25 v0 rfl rfl) h0
  obtain ⟨bs, hl2, rfl, hwf2⟩ := open_crate (n := 12) Tryd.underlying25 (by kernel_rfl) Tryd.underlying24 Tryd.underlying5 Tryd.underlying22 (by kernel_rfl) (by kernel_rfl) (hval 1 25 v1 rfl rfl) h1
  obtain ⟨ad, hE⟩ := ew7_of hL
  exact dfLaw_any cs bs ⟨hl, hwf⟩ ⟨hl2, hwf2⟩ ad W hE

theorem fnExactDifferIn_row : Rows.FnExactDifferInSaid :=
  OpenClaim.holds_of_wide 5 Tryd.f5 rfl rfl rfl rfl rfl rfl rfl ⟨rfl, rfl, rfl, rfl, rfl⟩ rfl rfl rfl rfl rfl (by kernel_rfl) Tryd.func5 (by kernel_rfl)
    (of_decide_eq_true (by kernel_rfl)) (by unfold Func.isWrapper; rw [if_neg (of_decide_eq_false (by kernel_rfl))]; exact ⟨rfl, rfl⟩)
    (fun os started H enc _ => fnExactDifferIn_lifted os started H enc)

theorem fnExactDifferIn_card : Rows.FnExactDifferInCardSaid :=
  Claim7.holds_tied_plain_at .later [] [.sentinel, .sentinel, .sentinel, .sentinel, .sentinel, .sentinel, .sentinel] true (true, "946e771f463bf2fff6f63ad38dac194d5146401c0a52cadcda846aeded862dbb") true
    fnExactDifferIn_row (fun _ h => by cases h) (by kernel_rfl) (fun _ h => by cases h) fnExactDifferIn_row_tie rfl ⟨rfl, rfl⟩ (by kernel_rfl) rfl
    (fun f fn hf hfn => by
      obtain rfl : f = 5 := Option.some.inj ((show Tryd.prog.funcNamed "loop.example/g01353/laws.FnExactDifferIn" = some 5 by kernel_rfl).symm.trans hf) |>.symm
      obtain rfl : fn = Tryd.f5 := (Option.some.inj (Tryd.func5.symm.trans hfn)).symm
      exact ⟨by kernel_rfl, fun j t ht => by
        have hm : t ∈ Tryd.f5.params.toList := Array.mem_toList_iff.2 (Array.mem_of_getElem? ht)
        have hall : (Tryd.f5.params.toList.all fun u => !Tryd.prog.wantsStandIn u) = true := by kernel_rfl
        exact (show Tryd.prog.wantsStandIn t = false by simpa using List.all_eq_true.1 hall t hm)⟩)
    (by kernel_rfl)
#print axioms fnExactDifferIn_card
end Go.Proofs.YtidfddemcjjgdaaDoor
