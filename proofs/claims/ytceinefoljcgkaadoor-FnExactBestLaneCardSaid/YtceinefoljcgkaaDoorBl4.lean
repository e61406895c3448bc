/-
  The program's contract of BestLane. Condition: the rack is a new one whose things fit their kinds; the sentinel errors lie as the row lists them.
-/
import Derived.Test.YtceinefoljcgkaaDoorBl3
namespace Go.Proofs.YtceinefoljcgkaaDoor
open Go.ChangeShapes Go.WideShapes Go.ChangeAt Go.RowKit Go.Deep

set_option maxRecDepth 100000 in
set_option maxHeartbeats 4000000 in
theorem implBest_any (xss : List (List Wnt)) (hwf : ∀ xs ∈ xss, ∀ x ∈ xs, wfW x) (x : Wnt) (hwx : wfW x) (g c : Nat) (gs : List Nat) (ad : Nat → Addr) (w : World) (hl : xss.length ≤ 1048576) (hx : ∀ xs ∈ xss, xs.length ≤ 1048576) (hr : RsN w g 59 45 wcells xss gs) (hE : EW 7 w ad) :
    Calls Tryd.prog 21 #[.slice (some ⟨g, 0, none⟩) xss.length c, .agg (wcells x).toArray] w fun e w' => e = .returned (.tuple #[.int .i64 (blN xss x), .int .i64 (blC xss x)]) ∧ Below w.heap.size w w' := by
  obtain ⟨⟨k1, y1⟩, n1⟩ := x
  show Calls Tryd.prog 21 #[.slice (some ⟨g, 0, none⟩) xss.length c, .agg #[.int .u8 k1, .int .i16 y1, .int .i16 n1]] w _
  have HR := Lib.hid hr
  have HW := Lib.hid hwf
  have HX := Lib.hid hx
  have HWX := Lib.hid hwx
  have HE := Lib.hid hE
  clear hr hwf hx hwx hE
  have h1 : Blk (w.alloc (.cells #[.int .u8 k1, .int .i16 y1, .int .i16 n1] 45)) w.heap.size 45 #[.int .u8 k1, .int .i16 y1, .int .i16 n1] := Blk.new w _ _
  have h2 : Below w.heap.size w (w.alloc (.cells #[.int .u8 k1, .int .i16 y1, .int .i16 n1] 45)) := (Below.refl _ w).alloc (Nat.le_refl _) _
  obtain ⟨v0, hv0⟩ : ∃ v, erV ad 5 (rkOk xss) = v := ⟨_, rfl⟩
  obtain ⟨v1, hv1⟩ : ∃ v, erV ad 5 (sV ((k1, y1), n1)) = v := ⟨_, rfl⟩
  have P0 : Hid (isE v0) := by rw [← hv0]; exact erV_isE _ _ _
  have P1 : Hid (isE v1) := by rw [← hv1]; exact erV_isE _ _ _
  have HC0 : Hid (∀ w', RdN w' w'.heap.size wcells (some ⟨g, 0, none⟩) xss → EW 7 w' ad → Calls Tryd.prog 32 #[.slice (some ⟨g, 0, none⟩) xss.length c] w' fun e w'' => e = .returned v0 ∧ Below w'.heap.size w' w'') := fun w' hr hE => by
    rw [← hv0]; exact checkRack_any xss _ c ad w' hl HX.out hr hE
  have HC1 : Hid (∀ B w', B < w'.heap.size → w'.rangeAt B 0 (wcells ((k1, y1), n1)) → EW 7 w' ad → Calls Tryd.prog 48 #[.slice (some ⟨B, 0, none⟩) 1 1] w' fun e w'' => e = .returned v1 ∧ Below w'.heap.size w' w'') := fun B w' hB hr hE => by
    rw [← hv1]; exact checkStored1_any ((k1, y1), n1) B 1 ad w' hB hr hE.i5
  have V0 := Lib.hid hv0
  have V1 := Lib.hid hv1
  clear hv0 hv1
  obtain ⟨W0, hW0⟩ : ∃ W0, w.alloc (.cells #[.int .u8 k1, .int .i16 y1, .int .i16 n1] 45) = W0 := ⟨_, rfl⟩
  rw [hW0] at h1 h2
  have H1 := Lib.hid h1
  have H2 := Lib.hid h2
  clear h1 h2
  go_enter Tryd.func21, Tryd.ntmps21
  go_wp2_with fail
  clear hW0
  refine wp_region_held_drew (S := fun w' => Below W0.heap.size W0 w') (by kernel_rfl) (Below.refl _ _).drew (fun hHeld => ?_)
  refine wpAnyH_take (i := 0) (v := .slice (some ⟨g, 0, none⟩) xss.length c) rfl (by kernel_rfl) (by kernel_rfl) (by kernel_rfl) (fun _ _ _ h => h) (Or.inl ⟨by rfl, fun w' h => by go_simp⟩) (by assumption) ?_
  try simp only [Act.put, List.getElem_toArray, List.getElem_cons_zero, List.getElem_cons_succ, List.setIfInBounds_toArray, List.set_cons_zero, List.set_cons_succ]
  refine wpAnyH_take (i := 2) (v := .agg #[.int .u8 k1, .int .i16 y1, .int .i16 n1]) rfl (by kernel_rfl) (by kernel_rfl) (by kernel_rfl) (fun _ _ _ h => h) (Or.inl ⟨by rfl, fun w' h => by have HM := (H1.out.below h H1.out.lt); have g0 : w'.cell? ⟨w.heap.size, 0, none⟩ = some (.int .u8 k1) := HM.cell 0; have g1 : w'.cell? ⟨w.heap.size, 1, none⟩ = some (.int .i16 y1) := HM.cell 1; have g2 : w'.cell? ⟨w.heap.size, 2, none⟩ = some (.int .i16 n1) := HM.cell 2; go_simp⟩) (by assumption) ?_
  try simp only [Act.put, List.getElem_toArray, List.getElem_cons_zero, List.getElem_cons_succ, List.setIfInBounds_toArray, List.set_cons_zero, List.set_cons_succ]
  obtain ⟨D0, hD0⟩ : ∃ D0, W0.drew = D0 := ⟨_, rfl⟩
  rw [hD0] at hHeld ⊢
  clear hD0
  refine wpAnyH_ready (rs := [1, 3]) (by kernel_rfl) (by simp) ?_
  refine AllReadyH.cons rfl (fun K hK => ?_) (AllReadyH.cons rfl (fun K hK => ?_) AllReadyH.nil)
  · skip
    refine if_wanted rfl ?_
    go_simp
    refine (HC0.out _ (HR.out.rd.keep (H2.out.trans (hHeld.mono H2.out.size))) (HE.out.below (H2.out.trans (hHeld.mono H2.out.size)) (Nat.le_refl _))).mono ?_
    rintro e z1 ⟨rfl, hb⟩
    have hH2 : Below W0.heap.size W0 z1 := hHeld.trans (hb.mono hHeld.size)
    clear hb hHeld
    dsimp only
    refine hK.out _ _ hH2 (fun hHeld => ?_)
    clear hK K hH2
    try simp only [Act.put, List.getElem_toArray, List.getElem_cons_zero, List.getElem_cons_succ, List.setIfInBounds_toArray, List.set_cons_zero, List.set_cons_succ]
    refine wpAnyH_ready (rs := [3]) (by kernel_rfl) (by simp) ?_
    refine AllReadyH.cons rfl (fun K hK => ?_) AllReadyH.nil
    refine if_wanted rfl ?_
    go_simp
    refine hK.out _ _ (hHeld.alloc hHeld.size _) (fun hHeld => ?_)
    clear hK K
    try simp only [Act.put, List.getElem_toArray, List.getElem_cons_zero, List.getElem_cons_succ, List.setIfInBounds_toArray, List.set_cons_zero, List.set_cons_succ]
    refine wpAnyH_ready (rs := [4]) (by kernel_rfl) (by simp) ?_
    refine AllReadyH.cons rfl (fun K hK => ?_) AllReadyH.nil
    refine if_wanted rfl ?_
    go_simp
    refine (HC1.out z1.heap.size _ (by simp) (three_cells' z1 _ k1 y1 n1) (HE.out.below (H2.out.trans (hHeld.mono H2.out.size)) (Nat.le_refl _))).mono ?_
    rintro e z3 ⟨rfl, hb⟩
    have hH2 : Below W0.heap.size W0 z3 := hHeld.trans (hb.mono hHeld.size)
    clear hb hHeld
    dsimp only
    refine hK.out _ _ hH2 (fun hHeld => ?_)
    clear hK K hH2
    try simp only [Act.put, List.getElem_toArray, List.getElem_cons_zero, List.getElem_cons_succ, List.setIfInBounds_toArray, List.set_cons_zero, List.set_cons_succ]
    refine wpAnyH_ready (rs := [5]) (by kernel_rfl) (by simp) ?_
    refine AllReadyH.cons rfl (fun K hK => ?_) AllReadyH.nil
    refine if_wanted rfl (wp_twoErrs (.tmp 10) (.tmp 13) rfl P0.out P1.out rfl rfl ?_)
    refine hK.out _ _ (hHeld.alloc hHeld.size _) (fun hHeld => ?_)
    clear hK K
    try simp only [Act.put, List.getElem_toArray, List.getElem_cons_zero, List.getElem_cons_succ, List.setIfInBounds_toArray, List.set_cons_zero, List.set_cons_succ]
    refine wpAnyH_ready (rs := [6]) (by kernel_rfl) (by simp) ?_
    refine AllReadyH.cons rfl (fun K hK => ?_) AllReadyH.nil
    have q0 := new_cell2 z3 v0 v1 62
    refine if_wanted rfl ?_
    go_simp
    refine (first2_any P0.out P1.out z3.heap.size _ _ q0.1 q0.2).mono ?_
    clear q0
    rintro e w9 ⟨rfl, rfl⟩
    dsimp only
    refine hK.out _ _ hHeld (fun hHeld => ?_)
    clear hK K
    try simp only [Act.put, List.getElem_toArray, List.getElem_cons_zero, List.getElem_cons_succ, List.setIfInBounds_toArray, List.set_cons_zero, List.set_cons_succ]
    refine wpAnyH_ready (rs := [7]) (by kernel_rfl) (by simp) ?_
    refine AllReadyH.cons rfl (fun K hK => ?_) AllReadyH.nil
    refine if_wanted rfl ?_
    refine wp_assign0 (v := firstV v0 v1) rfl rfl ?_
    refine hK.out _ _ hHeld (fun hHeld => ?_)
    clear hK K
    try simp only [Act.put, List.getElem_toArray, List.getElem_cons_zero, List.getElem_cons_succ, List.setIfInBounds_toArray, List.set_cons_zero, List.set_cons_succ]
    refine wpAnyH_done (by kernel_rfl) ?_ _
    try simp only [Act.put, List.getElem_toArray, List.getElem_cons_zero, List.getElem_cons_succ, List.setIfInBounds_toArray, List.set_cons_zero, List.set_cons_succ]
    obtain ⟨w3, hw3⟩ : ∃ w3, z3.alloc (.cells #[v0, v1] 62) = w3 := ⟨_, rfl⟩
    rw [hw3] at hHeld ⊢
    clear hw3
    have M2 : Hid (Below w.heap.size w w3) := H2.out.trans (hHeld.mono H2.out.size)
    have M1 : Hid (Blk w3 w.heap.size 45 #[.int .u8 k1, .int .i16 y1, .int .i16 n1]) := H1.out.below hHeld H1.out.lt
    clear hHeld
    cases ha : rkOk xss
    · have hv : firstV v0 v1 = .iface 135 (.pointer (some (ad 5))) := by rw [← V0.out, ha]; rfl
      rw [hv]
      have h0 : blC xss ((k1, y1), n1) = 1 := by simp [blC, ha]
      have hn : blN xss ((k1, y1), n1) = 0 := by rw [blN, h0]; rfl
      have E1 := Lib.hid h0
      have E2 := Lib.hid hn
      clear hv h0 hn
      go_wp2_with fail
      refine (codeOf_5 (HE.out.below M2.out (Nat.le_refl _))).mono ?_
      rintro e w4 ⟨rfl, rfl⟩
      go_wp2
      go_ret2
      exact ⟨by (rw [E1.out, E2.out]; first | done | rfl), M2.out⟩
    cases hs : sV ((k1, y1), n1)
    · have hv : firstV v0 v1 = .iface 135 (.pointer (some (ad 5))) := by rw [← V0.out, ← V1.out, ha, hs]; rfl
      rw [hv]
      have h0 : blC xss ((k1, y1), n1) = 1 := by simp [blC, hs]
      have hn : blN xss ((k1, y1), n1) = 0 := by rw [blN, h0]; rfl
      have E1 := Lib.hid h0
      have E2 := Lib.hid hn
      clear hv h0 hn
      go_wp2_with fail
      refine (codeOf_5 (HE.out.below M2.out (Nat.le_refl _))).mono ?_
      rintro e w4 ⟨rfl, rfl⟩
      go_wp2
      go_ret2
      exact ⟨by (rw [E1.out, E2.out]; first | done | rfl), M2.out⟩
    have hv : firstV v0 v1 = .nilIface := by rw [← V0.out, ← V1.out, ha, hs]; rfl
    rw [hv]
    have HA := Lib.hid ha
    have HSv := Lib.hid hs
    have H8 := rkOk_len ha
    have H6 : Hid (∀ xs ∈ xss, xs.length ≤ 6) := fun xs h => (rkOk_lane ha h).1
    clear hv ha hs V0 V1 P0 P1 HC0 HC1
    have b0 : w3.cell? ⟨w.heap.size, 0, none⟩ = some (.int .u8 k1) := M1.out.cell 0
    have b1 : w3.cell? ⟨w.heap.size, 1, none⟩ = some (.int .i16 y1) := M1.out.cell 1
    have b2 : w3.cell? ⟨w.heap.size, 2, none⟩ = some (.int .i16 n1) := M1.out.cell 2
    go_wp2_with fail
    refine (bestLane_any xss HW.out ((k1, y1), n1) HWX.out g c gs ad w3 H8 H6.out (HR.out.keep M2.out) (HE.out.below M2.out (Nat.le_refl _))).mono ?_
    rintro e w5 ⟨k2, y2, d2, i2, a2, n2, c2, rfl, hb⟩
    have HB5 : Hid (Below w.heap.size w w5) := M2.out.trans (hb.mono M2.out.size)
    clear hb b0 b1 b2
    obtain ⟨T, hT⟩ : ∃ T, bst xss n1 xss.length = T := ⟨_, rfl⟩
    have HT := Lib.hid hT
    rw [show bst xss ((k1, y1), n1).2 xss.length = T from hT]
    clear hT
    obtain ⟨lv, hlv⟩ : ∃ v, laneV T = v := ⟨_, rfl⟩
    rw [hlv]
    have HLV := Lib.hid hlv
    clear hlv
    go_wp2_with fail
    obtain ⟨w6, hw6⟩ : ∃ v, w5.alloc (.cells #[.int .u8 k2, .int .i16 y2, .int .i64 d2, .int .i64 lv, .int .i64 i2, .slice a2 n2 c2] 68) = v := ⟨_, rfl⟩
    have hb6 : Below w5.heap.size w5 w6 := by rw [← hw6]; exact (Below.refl _ _).alloc (Nat.le_refl _) _
    have hk6 : Blk w6 w5.heap.size 68 #[.int .u8 k2, .int .i16 y2, .int .i64 d2, .int .i64 lv, .int .i64 i2, .slice a2 n2 c2] := by rw [← hw6]; exact Blk.new w5 _ _
    rw [hw6]
    clear hw6
    have HB6 : Hid (Below w.heap.size w w6) := HB5.out.trans (hb6.mono HB5.out.size)
    have HK6 := Lib.hid hk6
    clear hb6 hk6
    rcases T with _ | ⟨bb, oo, nn⟩
    · rw [show bErr ad none = .iface 135 (.pointer (some (ad 4))) from rfl]
      have hc : blC xss ((k1, y1), n1) = 6 := by simp [blC, HA.out, HSv.out, HT.out]
      have hn : blN xss ((k1, y1), n1) = lv := by rw [blN, hc, ← HLV.out]; rfl
      have E1 := Lib.hid hc
      have E2 := Lib.hid hn
      clear hc hn
      refine wp_region_held_drew (S := fun w' => Below w6.heap.size w6 w') (by kernel_rfl) (Below.refl _ _).drew (fun hHeld => ?_)
      refine wpAnyH_take (i := 0) (v := .pointer (some ⟨w5.heap.size, 3, none⟩)) rfl (by kernel_rfl) (by kernel_rfl) (by kernel_rfl) (fun _ _ _ h => h) (Or.inl ⟨by rfl, fun w' h => by go_simp⟩) (by assumption) ?_
      try simp only [Act.put, List.getElem_toArray, List.getElem_cons_zero, List.getElem_cons_succ, List.setIfInBounds_toArray, List.set_cons_zero, List.set_cons_succ]
      refine wpAnyH_take (i := 1) (v := .int .i64 lv) rfl (by kernel_rfl) (by kernel_rfl) (by kernel_rfl) (fun _ _ _ h => h) (Or.inl ⟨by rfl, fun w' h => by have g0 : w'.cell? ⟨w5.heap.size, 3, none⟩ = some (.int .i64 lv) := (HK6.out.below h HK6.out.lt).cell 3; go_simp⟩) (by assumption) ?_
      try simp only [Act.put, List.getElem_toArray, List.getElem_cons_zero, List.getElem_cons_succ, List.setIfInBounds_toArray, List.set_cons_zero, List.set_cons_succ]
      refine wpAnyH_take (i := 2) (v := .iface 135 (.pointer (some (ad 4)))) rfl (by kernel_rfl) (by kernel_rfl) (by kernel_rfl) (fun _ _ _ h => h) (Or.inl ⟨by rfl, fun w' h => by go_simp⟩) (by assumption) ?_
      try simp only [Act.put, List.getElem_toArray, List.getElem_cons_zero, List.getElem_cons_succ, List.setIfInBounds_toArray, List.set_cons_zero, List.set_cons_succ]
      refine wpAnyH_ready (rs := [3]) (by kernel_rfl) (by simp) ?_
      refine AllReadyH.cons rfl (fun K hK => ?_) AllReadyH.nil
      refine if_wanted rfl ?_
      go_simp
      refine (codeOf_4 (EW.less (HE.out.below (HB6.out.trans (hHeld.mono HB6.out.size)) (Nat.le_refl _)) (by omega))).mono ?_
      rintro e w9 ⟨rfl, rfl⟩
      dsimp only
      refine hK.out _ _ hHeld (fun hHeld => ?_)
      clear hK K
      try simp only [Act.put, List.getElem_toArray, List.getElem_cons_zero, List.getElem_cons_succ, List.setIfInBounds_toArray, List.set_cons_zero, List.set_cons_succ]
      refine wpAnyH_ready (rs := [4]) (by kernel_rfl) (by simp) ?_
      refine AllReadyH.cons rfl (fun K hK => ?_) AllReadyH.nil
      refine if_wanted rfl ?_
      refine wp_assign0 (v := .int .i64 lv) rfl rfl ?_
      refine hK.out _ _ hHeld (fun hHeld => ?_)
      clear hK K
      try simp only [Act.put, List.getElem_toArray, List.getElem_cons_zero, List.getElem_cons_succ, List.setIfInBounds_toArray, List.set_cons_zero, List.set_cons_succ]
      refine wpAnyH_ready (rs := [5]) (by kernel_rfl) (by simp) ?_
      refine AllReadyH.cons rfl (fun K hK => ?_) AllReadyH.nil
      refine if_wanted rfl ?_
      refine wp_assign0 (v := .int .i64 6) rfl rfl ?_
      refine hK.out _ _ hHeld (fun hHeld => ?_)
      clear hK K
      try simp only [Act.put, List.getElem_toArray, List.getElem_cons_zero, List.getElem_cons_succ, List.setIfInBounds_toArray, List.set_cons_zero, List.set_cons_succ]
      refine wpAnyH_done (by kernel_rfl) ?_ _
      try simp only [Act.put, List.getElem_toArray, List.getElem_cons_zero, List.getElem_cons_succ, List.setIfInBounds_toArray, List.set_cons_zero, List.set_cons_succ]
      have hb := hHeld
      clear hHeld
      go_wp2
      go_ret2
      exact ⟨by (rw [E1.out, E2.out]; first | done | rfl), HB6.out.trans (hb.mono HB6.out.size)⟩
    · rw [show bErr ad (some (bb, oo, nn)) = .nilIface from rfl]
      have hc : blC xss ((k1, y1), n1) = 0 := by simp [blC, HA.out, HSv.out, HT.out]
      have hn : blN xss ((k1, y1), n1) = lv := by rw [blN, hc, if_pos rfl, ← HLV.out]; show bestI (bst xss n1 xss.length) = _; rw [HT.out]; rfl
      have E1 := Lib.hid hc
      have E2 := Lib.hid hn
      clear hc hn
      refine wp_region_held_drew (S := fun w' => Below w6.heap.size w6 w') (by kernel_rfl) (Below.refl _ _).drew (fun hHeld => ?_)
      refine wpAnyH_take (i := 0) (v := .pointer (some ⟨w5.heap.size, 3, none⟩)) rfl (by kernel_rfl) (by kernel_rfl) (by kernel_rfl) (fun _ _ _ h => h) (Or.inl ⟨by rfl, fun w' h => by go_simp⟩) (by assumption) ?_
      try simp only [Act.put, List.getElem_toArray, List.getElem_cons_zero, List.getElem_cons_succ, List.setIfInBounds_toArray, List.set_cons_zero, List.set_cons_succ]
      refine wpAnyH_take (i := 1) (v := .int .i64 lv) rfl (by kernel_rfl) (by kernel_rfl) (by kernel_rfl) (fun _ _ _ h => h) (Or.inl ⟨by rfl, fun w' h => by have g0 : w'.cell? ⟨w5.heap.size, 3, none⟩ = some (.int .i64 lv) := (HK6.out.below h HK6.out.lt).cell 3; go_simp⟩) (by assumption) ?_
      try simp only [Act.put, List.getElem_toArray, List.getElem_cons_zero, List.getElem_cons_succ, List.setIfInBounds_toArray, List.set_cons_zero, List.set_cons_succ]
      refine wpAnyH_take (i := 2) (v := .nilIface) rfl (by kernel_rfl) (by kernel_rfl) (by kernel_rfl) (fun _ _ _ h => h) (Or.inl ⟨by rfl, fun w' h => by go_simp⟩) (by assumption) ?_
      try simp only [Act.put, List.getElem_toArray, List.getElem_cons_zero, List.getElem_cons_succ, List.setIfInBounds_toArray, List.set_cons_zero, List.set_cons_succ]
      refine wpAnyH_ready (rs := [3]) (by kernel_rfl) (by simp) ?_
      refine AllReadyH.cons rfl (fun K hK => ?_) AllReadyH.nil
      refine if_wanted rfl ?_
      go_simp
      refine (codeOf_nil _).mono ?_
      rintro e w9 ⟨rfl, rfl⟩
      dsimp only
      refine hK.out _ _ hHeld (fun hHeld => ?_)
      clear hK K
      try simp only [Act.put, List.getElem_toArray, List.getElem_cons_zero, List.getElem_cons_succ, List.setIfInBounds_toArray, List.set_cons_zero, List.set_cons_succ]
      refine wpAnyH_ready (rs := [4]) (by kernel_rfl) (by simp) ?_
      refine AllReadyH.cons rfl (fun K hK => ?_) AllReadyH.nil
      refine if_wanted rfl ?_
      refine wp_assign0 (v := .int .i64 lv) rfl rfl ?_
      refine hK.out _ _ hHeld (fun hHeld => ?_)
      clear hK K
      try simp only [Act.put, List.getElem_toArray, List.getElem_cons_zero, List.getElem_cons_succ, List.setIfInBounds_toArray, List.set_cons_zero, List.set_cons_succ]
      refine wpAnyH_ready (rs := [5]) (by kernel_rfl) (by simp) ?_
      refine AllReadyH.cons rfl (fun K hK => ?_) AllReadyH.nil
      refine if_wanted rfl ?_
      refine wp_assign0 (v := .int .i64 0) rfl rfl ?_
      refine hK.out _ _ hHeld (fun hHeld => ?_)
      clear hK K
      try simp only [Act.put, List.getElem_toArray, List.getElem_cons_zero, List.getElem_cons_succ, List.setIfInBounds_toArray, List.set_cons_zero, List.set_cons_succ]
      refine wpAnyH_done (by kernel_rfl) ?_ _
      try simp only [Act.put, List.getElem_toArray, List.getElem_cons_zero, List.getElem_cons_succ, List.setIfInBounds_toArray, List.set_cons_zero, List.set_cons_succ]
      have hb := hHeld
      clear hHeld
      go_wp2
      go_ret2
      exact ⟨by (rw [E1.out, E2.out]; first | done | rfl), HB6.out.trans (hb.mono HB6.out.size)⟩
  · skip
    refine if_wanted rfl ?_
    go_simp
    refine hK.out _ _ (hHeld.alloc hHeld.size _) (fun hHeld => ?_)
    clear hK K
    try simp only [Act.put, List.getElem_toArray, List.getElem_cons_zero, List.getElem_cons_succ, List.setIfInBounds_toArray, List.set_cons_zero, List.set_cons_succ]
    refine wpAnyH_ready (rs := [1]) (by kernel_rfl) (by simp) ?_
    refine AllReadyH.cons rfl (fun K hK => ?_) AllReadyH.nil
    refine if_wanted rfl ?_
    go_simp
    refine (HC0.out _ (HR.out.rd.keep (H2.out.trans (hHeld.mono H2.out.size))) (HE.out.below (H2.out.trans (hHeld.mono H2.out.size)) (Nat.le_refl _))).mono ?_
    rintro e z1 ⟨rfl, hb⟩
    have hH2 : Below W0.heap.size W0 z1 := hHeld.trans (hb.mono hHeld.size)
    have hrB := rangeAt_below (three_cells' D0 45 k1 y1 n1) hb (by simp)
    have hlB : D0.heap.size < z1.heap.size := by have := hb.size; simp at this; omega
    clear hb hHeld
    dsimp only
    refine hK.out _ _ hH2 (fun hHeld => ?_)
    clear hK K hH2
    try simp only [Act.put, List.getElem_toArray, List.getElem_cons_zero, List.getElem_cons_succ, List.setIfInBounds_toArray, List.set_cons_zero, List.set_cons_succ]
    refine wpAnyH_ready (rs := [4]) (by kernel_rfl) (by simp) ?_
    refine AllReadyH.cons rfl (fun K hK => ?_) AllReadyH.nil
    refine if_wanted rfl ?_
    go_simp
    refine (HC1.out D0.heap.size _ hlB hrB (HE.out.below (H2.out.trans (hHeld.mono H2.out.size)) (Nat.le_refl _))).mono ?_
    rintro e z3 ⟨rfl, hb⟩
    have hH2 : Below W0.heap.size W0 z3 := hHeld.trans (hb.mono hHeld.size)
    clear hrB hlB
    clear hb hHeld
    dsimp only
    refine hK.out _ _ hH2 (fun hHeld => ?_)
    clear hK K hH2
    try simp only [Act.put, List.getElem_toArray, List.getElem_cons_zero, List.getElem_cons_succ, List.setIfInBounds_toArray, List.set_cons_zero, List.set_cons_succ]
    refine wpAnyH_ready (rs := [5]) (by kernel_rfl) (by simp) ?_
    refine AllReadyH.cons rfl (fun K hK => ?_) AllReadyH.nil
    refine if_wanted rfl (wp_twoErrs (.tmp 10) (.tmp 13) rfl P0.out P1.out rfl rfl ?_)
    refine hK.out _ _ (hHeld.alloc hHeld.size _) (fun hHeld => ?_)
    clear hK K
    try simp only [Act.put, List.getElem_toArray, List.getElem_cons_zero, List.getElem_cons_succ, List.setIfInBounds_toArray, List.set_cons_zero, List.set_cons_succ]
    refine wpAnyH_ready (rs := [6]) (by kernel_rfl) (by simp) ?_
    refine AllReadyH.cons rfl (fun K hK => ?_) AllReadyH.nil
    have q0 := new_cell2 z3 v0 v1 62
    refine if_wanted rfl ?_
    go_simp
    refine (first2_any P0.out P1.out z3.heap.size _ _ q0.1 q0.2).mono ?_
    clear q0
    rintro e w9 ⟨rfl, rfl⟩
    dsimp only
    refine hK.out _ _ hHeld (fun hHeld => ?_)
    clear hK K
    try simp only [Act.put, List.getElem_toArray, List.getElem_cons_zero, List.getElem_cons_succ, List.setIfInBounds_toArray, List.set_cons_zero, List.set_cons_succ]
    refine wpAnyH_ready (rs := [7]) (by kernel_rfl) (by simp) ?_
    refine AllReadyH.cons rfl (fun K hK => ?_) AllReadyH.nil
    refine if_wanted rfl ?_
    refine wp_assign0 (v := firstV v0 v1) rfl rfl ?_
    refine hK.out _ _ hHeld (fun hHeld => ?_)
    clear hK K
    try simp only [Act.put, List.getElem_toArray, List.getElem_cons_zero, List.getElem_cons_succ, List.setIfInBounds_toArray, List.set_cons_zero, List.set_cons_succ]
    refine wpAnyH_done (by kernel_rfl) ?_ _
    try simp only [Act.put, List.getElem_toArray, List.getElem_cons_zero, List.getElem_cons_succ, List.setIfInBounds_toArray, List.set_cons_zero, List.set_cons_succ]
    obtain ⟨w3, hw3⟩ : ∃ w3, z3.alloc (.cells #[v0, v1] 62) = w3 := ⟨_, rfl⟩
    rw [hw3] at hHeld ⊢
    clear hw3
    have M2 : Hid (Below w.heap.size w w3) := H2.out.trans (hHeld.mono H2.out.size)
    have M1 : Hid (Blk w3 w.heap.size 45 #[.int .u8 k1, .int .i16 y1, .int .i16 n1]) := H1.out.below hHeld H1.out.lt
    clear hHeld
    cases ha : rkOk xss
    · have hv : firstV v0 v1 = .iface 135 (.pointer (some (ad 5))) := by rw [← V0.out, ha]; rfl
      rw [hv]
      have h0 : blC xss ((k1, y1), n1) = 1 := by simp [blC, ha]
      have hn : blN xss ((k1, y1), n1) = 0 := by rw [blN, h0]; rfl
      have E1 := Lib.hid h0
      have E2 := Lib.hid hn
      clear hv h0 hn
      go_wp2_with fail
      refine (codeOf_5 (HE.out.below M2.out (Nat.le_refl _))).mono ?_
      rintro e w4 ⟨rfl, rfl⟩
      go_wp2
      go_ret2
      exact ⟨by (rw [E1.out, E2.out]; first | done | rfl), M2.out⟩
    cases hs : sV ((k1, y1), n1)
    · have hv : firstV v0 v1 = .iface 135 (.pointer (some (ad 5))) := by rw [← V0.out, ← V1.out, ha, hs]; rfl
      rw [hv]
      have h0 : blC xss ((k1, y1), n1) = 1 := by simp [blC, hs]
      have hn : blN xss ((k1, y1), n1) = 0 := by rw [blN, h0]; rfl
      have E1 := Lib.hid h0
      have E2 := Lib.hid hn
      clear hv h0 hn
      go_wp2_with fail
      refine (codeOf_5 (HE.out.below M2.out (Nat.le_refl _))).mono ?_
      rintro e w4 ⟨rfl, rfl⟩
      go_wp2
      go_ret2
      exact ⟨by (rw [E1.out, E2.out]; first | done | rfl), M2.out⟩
    have hv : firstV v0 v1 = .nilIface := by rw [← V0.out, ← V1.out, ha, hs]; rfl
    rw [hv]
    have HA := Lib.hid ha
    have HSv := Lib.hid hs
    have H8 := rkOk_len ha
    have H6 : Hid (∀ xs ∈ xss, xs.length ≤ 6) := fun xs h => (rkOk_lane ha h).1
    clear hv ha hs V0 V1 P0 P1 HC0 HC1
    have b0 : w3.cell? ⟨w.heap.size, 0, none⟩ = some (.int .u8 k1) := M1.out.cell 0
    have b1 : w3.cell? ⟨w.heap.size, 1, none⟩ = some (.int .i16 y1) := M1.out.cell 1
    have b2 : w3.cell? ⟨w.heap.size, 2, none⟩ = some (.int .i16 n1) := M1.out.cell 2
    go_wp2_with fail
    refine (bestLane_any xss HW.out ((k1, y1), n1) HWX.out g c gs ad w3 H8 H6.out (HR.out.keep M2.out) (HE.out.below M2.out (Nat.le_refl _))).mono ?_
    rintro e w5 ⟨k2, y2, d2, i2, a2, n2, c2, rfl, hb⟩
    have HB5 : Hid (Below w.heap.size w w5) := M2.out.trans (hb.mono M2.out.size)
    clear hb b0 b1 b2
    obtain ⟨T, hT⟩ : ∃ T, bst xss n1 xss.length = T := ⟨_, rfl⟩
    have HT := Lib.hid hT
    rw [show bst xss ((k1, y1), n1).2 xss.length = T from hT]
    clear hT
    obtain ⟨lv, hlv⟩ : ∃ v, laneV T = v := ⟨_, rfl⟩
    rw [hlv]
    have HLV := Lib.hid hlv
    clear hlv
    go_wp2_with fail
    obtain ⟨w6, hw6⟩ : ∃ v, w5.alloc (.cells #[.int .u8 k2, .int .i16 y2, .int .i64 d2, .int .i64 lv, .int .i64 i2, .slice a2 n2 c2] 68) = v := ⟨_, rfl⟩
    have hb6 : Below w5.heap.size w5 w6 := by rw [← hw6]; exact (Below.refl _ _).alloc (Nat.le_refl _) _
    have hk6 : Blk w6 w5.heap.size 68 #[.int .u8 k2, .int .i16 y2, .int .i64 d2, .int .i64 lv, .int .i64 i2, .slice a2 n2 c2] := by rw [← hw6]; exact Blk.new w5 _ _
    rw [hw6]
    clear hw6
    have HB6 : Hid (Below w.heap.size w w6) := HB5.out.trans (hb6.mono HB5.out.size)
    have HK6 := Lib.hid hk6
    clear hb6 hk6
    rcases T with _ | ⟨bb, oo, nn⟩
    · rw [show bErr ad none = .iface 135 (.pointer (some (ad 4))) from rfl]
      have hc : blC xss ((k1, y1), n1) = 6 := by simp [blC, HA.out, HSv.out, HT.out]
      have hn : blN xss ((k1, y1), n1) = lv := by rw [blN, hc, ← HLV.out]; rfl
      have E1 := Lib.hid hc
      have E2 := Lib.hid hn
      clear hc hn
      refine wp_region_held_drew (S := fun w' => Below w6.heap.size w6 w') (by kernel_rfl) (Below.refl _ _).drew (fun hHeld => ?_)
      refine wpAnyH_take (i := 0) (v := .pointer (some ⟨w5.heap.size, 3, none⟩)) rfl (by kernel_rfl) (by kernel_rfl) (by kernel_rfl) (fun _ _ _ h => h) (Or.inl ⟨by rfl, fun w' h => by go_simp⟩) (by assumption) ?_
      try simp only [Act.put, List.getElem_toArray, List.getElem_cons_zero, List.getElem_cons_succ, List.setIfInBounds_toArray, List.set_cons_zero, List.set_cons_succ]
      refine wpAnyH_take (i := 1) (v := .int .i64 lv) rfl (by kernel_rfl) (by kernel_rfl) (by kernel_rfl) (fun _ _ _ h => h) (Or.inl ⟨by rfl, fun w' h => by have g0 : w'.cell? ⟨w5.heap.size, 3, none⟩ = some (.int .i64 lv) := (HK6.out.below h HK6.out.lt).cell 3; go_simp⟩) (by assumption) ?_
      try simp only [Act.put, List.getElem_toArray, List.getElem_cons_zero, List.getElem_cons_succ, List.setIfInBounds_toArray, List.set_cons_zero, List.set_cons_succ]
      refine wpAnyH_take (i := 2) (v := .iface 135 (.pointer (some (ad 4)))) rfl (by kernel_rfl) (by kernel_rfl) (by kernel_rfl) (fun _ _ _ h => h) (Or.inl ⟨by rfl, fun w' h => by go_simp⟩) (by assumption) ?_
      try simp only [Act.put, List.getElem_toArray, List.getElem_cons_zero, List.getElem_cons_succ, List.setIfInBounds_toArray, List.set_cons_zero, List.set_cons_succ]
      refine wpAnyH_ready (rs := [3]) (by kernel_rfl) (by simp) ?_
      refine AllReadyH.cons rfl (fun K hK => ?_) AllReadyH.nil
      refine if_wanted rfl ?_
      go_simp
      refine (codeOf_4 (EW.less (HE.out.below (HB6.out.trans (hHeld.mono HB6.out.size)) (Nat.le_refl _)) (by omega))).mono ?_
      rintro e w9 ⟨rfl, rfl⟩
      dsimp only
      refine hK.out _ _ hHeld (fun hHeld => ?_)
      clear hK K
      try simp only [Act.put, List.getElem_toArray, List.getElem_cons_zero, List.getElem_cons_succ, List.setIfInBounds_toArray, List.set_cons_zero, List.set_cons_succ]
      refine wpAnyH_ready (rs := [4]) (by kernel_rfl) (by simp) ?_
      refine AllReadyH.cons rfl (fun K hK => ?_) AllReadyH.nil
      refine if_wanted rfl ?_
      refine wp_assign0 (v := .int .i64 lv) rfl rfl ?_
      refine hK.out _ _ hHeld (fun hHeld => ?_)
      clear hK K
      try simp only [Act.put, List.getElem_toArray, List.getElem_cons_zero, List.getElem_cons_succ, List.setIfInBounds_toArray, List.set_cons_zero, List.set_cons_succ]
      refine wpAnyH_ready (rs := [5]) (by kernel_rfl) (by simp) ?_
      refine AllReadyH.cons rfl (fun K hK => ?_) AllReadyH.nil
      refine if_wanted rfl ?_
      refine wp_assign0 (v := .int .i64 6) rfl rfl ?_
      refine hK.out _ _ hHeld (fun hHeld => ?_)
      clear hK K
      try simp only [Act.put, List.getElem_toArray, List.getElem_cons_zero, List.getElem_cons_succ, List.setIfInBounds_toArray, List.set_cons_zero, List.set_cons_succ]
      refine wpAnyH_done (by kernel_rfl) ?_ _
      try simp only [Act.put, List.getElem_toArray, List.getElem_cons_zero, List.getElem_cons_succ, List.setIfInBounds_toArray, List.set_cons_zero, List.set_cons_succ]
      have hb := hHeld
      clear hHeld
      go_wp2
      go_ret2
      exact ⟨by (rw [E1.out, E2.out]; first | done | rfl), HB6.out.trans (hb.mono HB6.out.size)⟩
    · rw [show bErr ad (some (bb, oo, nn)) = .nilIface from rfl]
      have hc : blC xss ((k1, y1), n1) = 0 := by simp [blC, HA.out, HSv.out, HT.out]
      have hn : blN xss ((k1, y1), n1) = lv := by rw [blN, hc, if_pos rfl, ← HLV.out]; show bestI (bst xss n1 xss.length) = _; rw [HT.out]; rfl
      have E1 := Lib.hid hc
      have E2 := Lib.hid hn
      clear hc hn
      refine wp_region_held_drew (S := fun w' => Below w6.heap.size w6 w') (by kernel_rfl) (Below.refl _ _).drew (fun hHeld => ?_)
      refine wpAnyH_take (i := 0) (v := .pointer (some ⟨w5.heap.size, 3, none⟩)) rfl (by kernel_rfl) (by kernel_rfl) (by kernel_rfl) (fun _ _ _ h => h) (Or.inl ⟨by rfl, fun w' h => by go_simp⟩) (by assumption) ?_
      try simp only [Act.put, List.getElem_toArray, List.getElem_cons_zero, List.getElem_cons_succ, List.setIfInBounds_toArray, List.set_cons_zero, List.set_cons_succ]
      refine wpAnyH_take (i := 1) (v := .int .i64 lv) rfl (by kernel_rfl) (by kernel_rfl) (by kernel_rfl) (fun _ _ _ h => h) (Or.inl ⟨by rfl, fun w' h => by have g0 : w'.cell? ⟨w5.heap.size, 3, none⟩ = some (.int .i64 lv) := (HK6.out.below h HK6.out.lt).cell 3; go_simp⟩) (by assumption) ?_
      try simp only [Act.put, List.getElem_toArray, List.getElem_cons_zero, List.getElem_cons_succ, List.setIfInBounds_toArray, List.set_cons_zero, List.set_cons_succ]
      refine wpAnyH_take (i := 2) (v := .nilIface) rfl (by kernel_rfl) (by kernel_rfl) (by kernel_rfl) (fun _ _ _ h => h) (Or.inl ⟨by rfl, fun w' h => by go_simp⟩) (by assumption) ?_
      try simp only [Act.put, List.getElem_toArray, List.getElem_cons_zero, List.getElem_cons_succ, List.setIfInBounds_toArray, List.set_cons_zero, List.set_cons_succ]
      refine wpAnyH_ready (rs := [3]) (by kernel_rfl) (by simp) ?_
      refine AllReadyH.cons rfl (fun K hK => ?_) AllReadyH.nil
      refine if_wanted rfl ?_
      go_simp
      refine (codeOf_nil _).mono ?_
      rintro e w9 ⟨rfl, rfl⟩
      dsimp only
      refine hK.out _ _ hHeld (fun hHeld => ?_)
      clear hK K
      try simp only [Act.put, List.getElem_toArray, List.getElem_cons_zero, List.getElem_cons_succ, List.setIfInBounds_toArray, List.set_cons_zero, List.set_cons_succ]
      refine wpAnyH_ready (rs := [4]) (by kernel_rfl) (by simp) ?_
      refine AllReadyH.cons rfl (fun K hK => ?_) AllReadyH.nil
      refine if_wanted rfl ?_
      refine wp_assign0 (v := .int .i64 lv) rfl rfl ?_
      refine hK.out _ _ hHeld (fun hHeld => ?_)
      clear hK K
      try simp only [Act.put, List.getElem_toArray, List.getElem_cons_zero, List.getElem_cons_succ, List.setIfInBounds_toArray, List.set_cons_zero, List.set_cons_succ]
      refine wpAnyH_ready (rs := [5]) (by kernel_rfl) (by simp) ?_
      refine AllReadyH.cons rfl (fun K hK => ?_) AllReadyH.nil
      refine if_wanted rfl ?_
      refine wp_assign0 (v := .int .i64 0) rfl rfl ?_
      refine hK.out _ _ hHeld (fun hHeld => ?_)
      clear hK K
      try simp only [Act.put, List.getElem_toArray, List.getElem_cons_zero, List.getElem_cons_succ, List.setIfInBounds_toArray, List.set_cons_zero, List.set_cons_succ]
      refine wpAnyH_done (by kernel_rfl) ?_ _
      try simp only [Act.put, List.getElem_toArray, List.getElem_cons_zero, List.getElem_cons_succ, List.setIfInBounds_toArray, List.set_cons_zero, List.set_cons_succ]
      have hb := hHeld
      clear hHeld
      go_wp2
      go_ret2
      exact ⟨by (rw [E1.out, E2.out]; first | done | rfl), HB6.out.trans (hb.mono HB6.out.size)⟩
end Go.Proofs.YtceinefoljcgkaaDoor
