/-
  The contracts of the model's WalksOn and WalksUntil. Condition: the walker's numbers fit their kinds.
-/
import Derived.Test.YtjiihdljchaeiabDoorYz
import Derived.Deep.RegionHeld3
namespace Go.Proofs.YtjiihdljchaeiabDoor
open Go.ChangeShapes Go.WideShapes Go.ChangeAt Go.RowKit Go.Deep

set_option maxRecDepth 100000 in
set_option maxHeartbeats 2000000 in
theorem specWalksOn_any (n : Int) (hn : wfI6 n) (x : Wal) (hx : wfV x) (d : Int) (w : World) :
    Calls Tryd.prog 13 #[.int .i64 n, .agg (vcells x).toArray, .int .i64 d] w fun e w' => e = .returned (.tuple #[.bool (woB n x d), .int .i64 (akV n [x] (inS d))]) ∧ Below w.heap.size w w' := by
  have hK0 : Blk (w.alloc (.cells (vcells x).toArray 29)) w.heap.size 29 (vcells x).toArray := Blk.new w _ _
  have hB0 : Below w.heap.size w (w.alloc (.cells (vcells x).toArray 29)) := (Below.refl _ w).alloc (Nat.le_refl _) _
  obtain ⟨W1, hW1⟩ : ∃ W1, w.alloc (.cells (vcells x).toArray 29) = W1 := ⟨_, rfl⟩
  rw [hW1] at hK0 hB0
  have HK0 := Lib.hid hK0
  have HB0 := Lib.hid hB0
  have HX := Lib.hid hx
  clear hK0 hB0 hx
  go_enter Tryd.func13, Tryd.ntmps13
  go_wp2_with fail
  clear hW1
  refine wp_region_held_drew (S := fun w' => Below W1.heap.size W1 w') (by kernel_rfl) (Below.refl _ _).drew (fun hHeld => ?_)
  refine wpAnyH_take (i := 0) (v := .int .i64 n) rfl (by kernel_rfl) (by kernel_rfl) (by kernel_rfl) (fun _ _ _ h => h) (Or.inl ⟨by rfl, fun w' h => by go_simp⟩) (by assumption) ?_
  try simp only [Act.put, List.getElem_toArray, List.getElem_cons_zero, List.getElem_cons_succ, List.setIfInBounds_toArray, List.set_cons_zero, List.set_cons_succ]
  refine' wpAnyH_take (i := 1) (v := _) rfl (by kernel_rfl) (by kernel_rfl) (by kernel_rfl) (fun _ _ _ h => h) (yieldsIf_load_mid (by rfl) 29 (.tmp 4) rfl w.heap.size 0 rfl (vcells x) _ (fun w' h => by have := (HK0.out.below h HK0.out.lt); intro j v hv; rw [Nat.zero_add, Blk.cell this]; simpa using hv) Tryd.underlying29 rfl Tryd.sizeVI) (by assumption) ?_
  try simp only [Act.put, List.getElem_toArray, List.getElem_cons_zero, List.getElem_cons_succ, List.setIfInBounds_toArray, List.set_cons_zero, List.set_cons_succ]
  refine wpAnyH_take (i := 3) (v := .int .i64 d) rfl (by kernel_rfl) (by kernel_rfl) (by kernel_rfl) (fun _ _ _ h => h) (Or.inl ⟨by rfl, fun w' h => by go_simp⟩) (by assumption) ?_
  try simp only [Act.put, List.getElem_toArray, List.getElem_cons_zero, List.getElem_cons_succ, List.setIfInBounds_toArray, List.set_cons_zero, List.set_cons_succ]
  obtain ⟨D0, hD0⟩ : ∃ D0, W1.drew = D0 := ⟨_, rfl⟩
  rw [hD0] at hHeld ⊢
  clear hD0
  refine wpAnyH_ready (rs := [2, 4]) (by kernel_rfl) (by simp) ?_
  refine AllReadyH.cons rfl (fun K hK => ?_) (AllReadyH.cons rfl (fun K hK => ?_) AllReadyH.nil)
  · skip
    refine if_wanted rfl (wp_oneWal (.tmp 10) rfl x rfl ?_)
    refine hK.out _ _ (hHeld.alloc hHeld.size _) (fun hHeld => ?_)
    clear hK K
    try simp only [Act.put, List.getElem_toArray, List.getElem_cons_zero, List.getElem_cons_succ, List.setIfInBounds_toArray, List.set_cons_zero, List.set_cons_succ]
    refine wpAnyH_ready (rs := [4]) (by kernel_rfl) (by simp) ?_
    refine AllReadyH.cons rfl (fun K hK => ?_) AllReadyH.nil
    refine if_wanted rfl ?_
    go_simp
    refine (l05Day_any _ _).mono ?_
    rintro e w9 ⟨rfl, rfl⟩
    dsimp only
    refine hK.out _ _ hHeld (fun hHeld => ?_)
    clear hK K
    try simp only [Act.put, List.getElem_toArray, List.getElem_cons_zero, List.getElem_cons_succ, List.setIfInBounds_toArray, List.set_cons_zero, List.set_cons_succ]
    refine wpAnyH_ready (rs := [5]) (by kernel_rfl) (by simp) ?_
    refine AllReadyH.cons rfl (fun K hK => ?_) AllReadyH.nil
    refine if_wanted rfl ?_
    go_simp
    refine (l05Asked_any n hn [x] (fun y hy => by simp at hy; subst hy; exact HX.out) (inS d) _ 1 _ (by simp) (rd_one x D0)).mono ?_
    rintro e w2 ⟨rfl, hb⟩
    have hH2 : Below W1.heap.size W1 w2 := hHeld.trans (hb.mono hHeld.size)
    clear hb hHeld
    obtain ⟨cd, hcd⟩ : ∃ cd, akV n [x] (inS d) = cd := ⟨_, rfl⟩
    have HCD := Lib.hid hcd
    rw [hcd]
    clear hcd
    dsimp only
    refine hK.out _ _ hH2 (fun hHeld => ?_)
    clear hK K hH2
    try simp only [Act.put, List.getElem_toArray, List.getElem_cons_zero, List.getElem_cons_succ, List.setIfInBounds_toArray, List.set_cons_zero, List.set_cons_succ]
    refine wpAnyH_ready (rs := [6]) (by kernel_rfl) (by simp) ?_
    refine AllReadyH.cons rfl (fun K hK => ?_) AllReadyH.nil
    refine if_wanted rfl ?_
    refine wp_assign0 (v := .int .i64 cd) rfl rfl ?_
    refine hK.out _ _ hHeld (fun hHeld => ?_)
    clear hK K
    try simp only [Act.put, List.getElem_toArray, List.getElem_cons_zero, List.getElem_cons_succ, List.setIfInBounds_toArray, List.set_cons_zero, List.set_cons_succ]
    refine wpAnyH_done (by kernel_rfl) ?_ _
    try simp only [Act.put, List.getElem_toArray, List.getElem_cons_zero, List.getElem_cons_succ, List.setIfInBounds_toArray, List.set_cons_zero, List.set_cons_succ]
    have HB2 : Hid (Below w.heap.size w w2) := HB0.out.trans (hHeld.mono HB0.out.size)
    have HK2 : Hid (Blk w2 w.heap.size 29 (vcells x).toArray) := HK0.out.below hHeld HK0.out.lt
    clear hHeld
    by_cases hz : cd = 0
    · subst hz
      obtain ⟨hv, hd⟩ := akV_yes HCD.out
      have E2 : Hid (woB n x d = onD x d) := if_pos HCD.out
      have hdb : dayB d := by simp only [inS, Bool.and_eq_true, decide_eq_true_eq] at hd; exact ⟨by omega, by omega⟩
      have HD := Lib.hid hdb
      obtain ⟨⟨h1, h60⟩, hw⟩ := vsOk_one hv
      have HXO := Lib.hid (vOk_out hw)
      clear hv hw hd hdb
      go_wp2_with (refine wpList_load_row rfl 29 (.tmp 4) rfl w.heap.size rfl 29 (vcells x).toArray (0, 0) _ HK2.out Tryd.underlying29 rfl (Tryd.sizeVIx x) ?_)
      refine (l05On_any x HXO.out.1 HXO.out.2.1 d HD.out _).mono ?_
      rintro e w5 ⟨rfl, hb⟩
      have HB4 : Hid (Below w.heap.size w w5) := HB2.out.trans (hb.mono HB2.out.size)
      clear hb
      obtain ⟨u, hu⟩ : ∃ u, onD x d = u := ⟨_, rfl⟩
      have HU : Hid (onD x d = u) := hu
      rw [hu]
      clear hu
      go_wp2
      go_ret2
      exact ⟨by (rw [E2.out, HCD.out, HU.out]; first | done | rfl), HB4.out⟩
    · have E2 : Hid (woB n x d = false) := if_neg (by rw [HCD.out]; exact hz)
      have hzb : (cd == 0) = false := by simpa using hz
      go_wp2
      go_ret2
      exact ⟨by (rw [E2.out, HCD.out]; first | done | rfl), HB2.out⟩
  · skip
    refine if_wanted rfl ?_
    go_simp
    refine (l05Day_any _ _).mono ?_
    rintro e w9 ⟨rfl, rfl⟩
    dsimp only
    refine hK.out _ _ hHeld (fun hHeld => ?_)
    clear hK K
    try simp only [Act.put, List.getElem_toArray, List.getElem_cons_zero, List.getElem_cons_succ, List.setIfInBounds_toArray, List.set_cons_zero, List.set_cons_succ]
    refine wpAnyH_ready (rs := [2]) (by kernel_rfl) (by simp) ?_
    refine AllReadyH.cons rfl (fun K hK => ?_) AllReadyH.nil
    refine if_wanted rfl (wp_oneWal (.tmp 10) rfl x rfl ?_)
    refine hK.out _ _ (hHeld.alloc hHeld.size _) (fun hHeld => ?_)
    clear hK K
    try simp only [Act.put, List.getElem_toArray, List.getElem_cons_zero, List.getElem_cons_succ, List.setIfInBounds_toArray, List.set_cons_zero, List.set_cons_succ]
    refine wpAnyH_ready (rs := [5]) (by kernel_rfl) (by simp) ?_
    refine AllReadyH.cons rfl (fun K hK => ?_) AllReadyH.nil
    refine if_wanted rfl ?_
    go_simp
    refine (l05Asked_any n hn [x] (fun y hy => by simp at hy; subst hy; exact HX.out) (inS d) _ 1 _ (by simp) (rd_one x D0)).mono ?_
    rintro e w2 ⟨rfl, hb⟩
    have hH2 : Below W1.heap.size W1 w2 := hHeld.trans (hb.mono hHeld.size)
    clear hb hHeld
    obtain ⟨cd, hcd⟩ : ∃ cd, akV n [x] (inS d) = cd := ⟨_, rfl⟩
    have HCD := Lib.hid hcd
    rw [hcd]
    clear hcd
    dsimp only
    refine hK.out _ _ hH2 (fun hHeld => ?_)
    clear hK K hH2
    try simp only [Act.put, List.getElem_toArray, List.getElem_cons_zero, List.getElem_cons_succ, List.setIfInBounds_toArray, List.set_cons_zero, List.set_cons_succ]
    refine wpAnyH_ready (rs := [6]) (by kernel_rfl) (by simp) ?_
    refine AllReadyH.cons rfl (fun K hK => ?_) AllReadyH.nil
    refine if_wanted rfl ?_
    refine wp_assign0 (v := .int .i64 cd) rfl rfl ?_
    refine hK.out _ _ hHeld (fun hHeld => ?_)
    clear hK K
    try simp only [Act.put, List.getElem_toArray, List.getElem_cons_zero, List.getElem_cons_succ, List.setIfInBounds_toArray, List.set_cons_zero, List.set_cons_succ]
    refine wpAnyH_done (by kernel_rfl) ?_ _
    try simp only [Act.put, List.getElem_toArray, List.getElem_cons_zero, List.getElem_cons_succ, List.setIfInBounds_toArray, List.set_cons_zero, List.set_cons_succ]
    have HB2 : Hid (Below w.heap.size w w2) := HB0.out.trans (hHeld.mono HB0.out.size)
    have HK2 : Hid (Blk w2 w.heap.size 29 (vcells x).toArray) := HK0.out.below hHeld HK0.out.lt
    clear hHeld
    by_cases hz : cd = 0
    · subst hz
      obtain ⟨hv, hd⟩ := akV_yes HCD.out
      have E2 : Hid (woB n x d = onD x d) := if_pos HCD.out
      have hdb : dayB d := by simp only [inS, Bool.and_eq_true, decide_eq_true_eq] at hd; exact ⟨by omega, by omega⟩
      have HD := Lib.hid hdb
      obtain ⟨⟨h1, h60⟩, hw⟩ := vsOk_one hv
      have HXO := Lib.hid (vOk_out hw)
      clear hv hw hd hdb
      go_wp2_with (refine wpList_load_row rfl 29 (.tmp 4) rfl w.heap.size rfl 29 (vcells x).toArray (0, 0) _ HK2.out Tryd.underlying29 rfl (Tryd.sizeVIx x) ?_)
      refine (l05On_any x HXO.out.1 HXO.out.2.1 d HD.out _).mono ?_
      rintro e w5 ⟨rfl, hb⟩
      have HB4 : Hid (Below w.heap.size w w5) := HB2.out.trans (hb.mono HB2.out.size)
      clear hb
      obtain ⟨u, hu⟩ : ∃ u, onD x d = u := ⟨_, rfl⟩
      have HU : Hid (onD x d = u) := hu
      rw [hu]
      clear hu
      go_wp2
      go_ret2
      exact ⟨by (rw [E2.out, HCD.out, HU.out]; first | done | rfl), HB4.out⟩
    · have E2 : Hid (woB n x d = false) := if_neg (by rw [HCD.out]; exact hz)
      have hzb : (cd == 0) = false := by simpa using hz
      go_wp2
      go_ret2
      exact ⟨by (rw [E2.out, HCD.out]; first | done | rfl), HB2.out⟩

set_option maxRecDepth 100000 in
set_option maxHeartbeats 2000000 in
theorem specWalksUntil_any (n : Int) (hn : wfI6 n) (x : Wal) (hx : wfV x) (d : Int) (w : World) :
    Calls Tryd.prog 15 #[.int .i64 n, .agg (vcells x).toArray, .int .i64 d] w fun e w' => e = .returned (.tuple #[.int .i64 (wuN n x d), .int .i64 (akV n [x] (inS d))]) ∧ Below w.heap.size w w' := by
  have hK0 : Blk (w.alloc (.cells (vcells x).toArray 29)) w.heap.size 29 (vcells x).toArray := Blk.new w _ _
  have hB0 : Below w.heap.size w (w.alloc (.cells (vcells x).toArray 29)) := (Below.refl _ w).alloc (Nat.le_refl _) _
  obtain ⟨W1, hW1⟩ : ∃ W1, w.alloc (.cells (vcells x).toArray 29) = W1 := ⟨_, rfl⟩
  rw [hW1] at hK0 hB0
  have HK0 := Lib.hid hK0
  have HB0 := Lib.hid hB0
  have HX := Lib.hid hx
  clear hK0 hB0 hx
  go_enter Tryd.func15, Tryd.ntmps15
  go_wp2_with fail
  clear hW1
  refine wp_region_held_drew (S := fun w' => Below W1.heap.size W1 w') (by kernel_rfl) (Below.refl _ _).drew (fun hHeld => ?_)
  refine wpAnyH_take (i := 0) (v := .int .i64 n) rfl (by kernel_rfl) (by kernel_rfl) (by kernel_rfl) (fun _ _ _ h => h) (Or.inl ⟨by rfl, fun w' h => by go_simp⟩) (by assumption) ?_
  try simp only [Act.put, List.getElem_toArray, List.getElem_cons_zero, List.getElem_cons_succ, List.setIfInBounds_toArray, List.set_cons_zero, List.set_cons_succ]
  refine' wpAnyH_take (i := 1) (v := _) rfl (by kernel_rfl) (by kernel_rfl) (by kernel_rfl) (fun _ _ _ h => h) (yieldsIf_load_mid (by rfl) 29 (.tmp 4) rfl w.heap.size 0 rfl (vcells x) _ (fun w' h => by have := (HK0.out.below h HK0.out.lt); intro j v hv; rw [Nat.zero_add, Blk.cell this]; simpa using hv) Tryd.underlying29 rfl Tryd.sizeVI) (by assumption) ?_
  try simp only [Act.put, List.getElem_toArray, List.getElem_cons_zero, List.getElem_cons_succ, List.setIfInBounds_toArray, List.set_cons_zero, List.set_cons_succ]
  refine wpAnyH_take (i := 3) (v := .int .i64 d) rfl (by kernel_rfl) (by kernel_rfl) (by kernel_rfl) (fun _ _ _ h => h) (Or.inl ⟨by rfl, fun w' h => by go_simp⟩) (by assumption) ?_
  try simp only [Act.put, List.getElem_toArray, List.getElem_cons_zero, List.getElem_cons_succ, List.setIfInBounds_toArray, List.set_cons_zero, List.set_cons_succ]
  obtain ⟨D0, hD0⟩ : ∃ D0, W1.drew = D0 := ⟨_, rfl⟩
  rw [hD0] at hHeld ⊢
  clear hD0
  refine wpAnyH_ready (rs := [2, 4]) (by kernel_rfl) (by simp) ?_
  refine AllReadyH.cons rfl (fun K hK => ?_) (AllReadyH.cons rfl (fun K hK => ?_) AllReadyH.nil)
  · skip
    refine if_wanted rfl (wp_oneWal (.tmp 10) rfl x rfl ?_)
    refine hK.out _ _ (hHeld.alloc hHeld.size _) (fun hHeld => ?_)
    clear hK K
    try simp only [Act.put, List.getElem_toArray, List.getElem_cons_zero, List.getElem_cons_succ, List.setIfInBounds_toArray, List.set_cons_zero, List.set_cons_succ]
    refine wpAnyH_ready (rs := [4]) (by kernel_rfl) (by simp) ?_
    refine AllReadyH.cons rfl (fun K hK => ?_) AllReadyH.nil
    refine if_wanted rfl ?_
    go_simp
    refine (l05Day_any _ _).mono ?_
    rintro e w9 ⟨rfl, rfl⟩
    dsimp only
    refine hK.out _ _ hHeld (fun hHeld => ?_)
    clear hK K
    try simp only [Act.put, List.getElem_toArray, List.getElem_cons_zero, List.getElem_cons_succ, List.setIfInBounds_toArray, List.set_cons_zero, List.set_cons_succ]
    refine wpAnyH_ready (rs := [5]) (by kernel_rfl) (by simp) ?_
    refine AllReadyH.cons rfl (fun K hK => ?_) AllReadyH.nil
    refine if_wanted rfl ?_
    go_simp
    refine (l05Asked_any n hn [x] (fun y hy => by simp at hy; subst hy; exact HX.out) (inS d) _ 1 _ (by simp) (rd_one x D0)).mono ?_
    rintro e w2 ⟨rfl, hb⟩
    have hH2 : Below W1.heap.size W1 w2 := hHeld.trans (hb.mono hHeld.size)
    clear hb hHeld
    obtain ⟨cd, hcd⟩ : ∃ cd, akV n [x] (inS d) = cd := ⟨_, rfl⟩
    have HCD := Lib.hid hcd
    rw [hcd]
    clear hcd
    dsimp only
    refine hK.out _ _ hH2 (fun hHeld => ?_)
    clear hK K hH2
    try simp only [Act.put, List.getElem_toArray, List.getElem_cons_zero, List.getElem_cons_succ, List.setIfInBounds_toArray, List.set_cons_zero, List.set_cons_succ]
    refine wpAnyH_ready (rs := [6]) (by kernel_rfl) (by simp) ?_
    refine AllReadyH.cons rfl (fun K hK => ?_) AllReadyH.nil
    refine if_wanted rfl ?_
    refine wp_assign0 (v := .int .i64 cd) rfl rfl ?_
    refine hK.out _ _ hHeld (fun hHeld => ?_)
    clear hK K
    try simp only [Act.put, List.getElem_toArray, List.getElem_cons_zero, List.getElem_cons_succ, List.setIfInBounds_toArray, List.set_cons_zero, List.set_cons_succ]
    refine wpAnyH_done (by kernel_rfl) ?_ _
    try simp only [Act.put, List.getElem_toArray, List.getElem_cons_zero, List.getElem_cons_succ, List.setIfInBounds_toArray, List.set_cons_zero, List.set_cons_succ]
    have HB2 : Hid (Below w.heap.size w w2) := HB0.out.trans (hHeld.mono HB0.out.size)
    have HK2 : Hid (Blk w2 w.heap.size 29 (vcells x).toArray) := HK0.out.below hHeld HK0.out.lt
    clear hHeld
    by_cases hz : cd = 0
    · subst hz
      obtain ⟨hv, hd⟩ := akV_yes HCD.out
      have E2 : Hid (wuN n x d = unD x d) := if_pos HCD.out
      have hdb : dayB d := by simp only [inS, Bool.and_eq_true, decide_eq_true_eq] at hd; exact ⟨by omega, by omega⟩
      have HD := Lib.hid hdb
      obtain ⟨⟨h1, h60⟩, hw⟩ := vsOk_one hv
      have HXO := Lib.hid (vOk_out hw)
      clear hv hw hd hdb
      go_wp2_with (refine wpList_load_row rfl 29 (.tmp 4) rfl w.heap.size rfl 29 (vcells x).toArray (0, 0) _ HK2.out Tryd.underlying29 rfl (Tryd.sizeVIx x) ?_)
      refine (l05Until_any x HXO.out.1 HXO.out.2.1 d HD.out _).mono ?_
      rintro e w5 ⟨rfl, hb⟩
      have HB4 : Hid (Below w.heap.size w w5) := HB2.out.trans (hb.mono HB2.out.size)
      clear hb
      obtain ⟨u, hu⟩ : ∃ u, unD x d = u := ⟨_, rfl⟩
      have HU : Hid (unD x d = u) := hu
      rw [hu]
      clear hu
      go_wp2
      go_ret2
      exact ⟨by (rw [E2.out, HCD.out, HU.out]; first | done | rfl), HB4.out⟩
    · have E2 : Hid (wuN n x d = 0) := if_neg (by rw [HCD.out]; exact hz)
      have hzb : (cd == 0) = false := by simpa using hz
      go_wp2
      go_ret2
      exact ⟨by (rw [E2.out, HCD.out]; first | done | rfl), HB2.out⟩
  · skip
    refine if_wanted rfl ?_
    go_simp
    refine (l05Day_any _ _).mono ?_
    rintro e w9 ⟨rfl, rfl⟩
    dsimp only
    refine hK.out _ _ hHeld (fun hHeld => ?_)
    clear hK K
    try simp only [Act.put, List.getElem_toArray, List.getElem_cons_zero, List.getElem_cons_succ, List.setIfInBounds_toArray, List.set_cons_zero, List.set_cons_succ]
    refine wpAnyH_ready (rs := [2]) (by kernel_rfl) (by simp) ?_
    refine AllReadyH.cons rfl (fun K hK => ?_) AllReadyH.nil
    refine if_wanted rfl (wp_oneWal (.tmp 10) rfl x rfl ?_)
    refine hK.out _ _ (hHeld.alloc hHeld.size _) (fun hHeld => ?_)
    clear hK K
    try simp only [Act.put, List.getElem_toArray, List.getElem_cons_zero, List.getElem_cons_succ, List.setIfInBounds_toArray, List.set_cons_zero, List.set_cons_succ]
    refine wpAnyH_ready (rs := [5]) (by kernel_rfl) (by simp) ?_
    refine AllReadyH.cons rfl (fun K hK => ?_) AllReadyH.nil
    refine if_wanted rfl ?_
    go_simp
    refine (l05Asked_any n hn [x] (fun y hy => by simp at hy; subst hy; exact HX.out) (inS d) _ 1 _ (by simp) (rd_one x D0)).mono ?_
    rintro e w2 ⟨rfl, hb⟩
    have hH2 : Below W1.heap.size W1 w2 := hHeld.trans (hb.mono hHeld.size)
    clear hb hHeld
    obtain ⟨cd, hcd⟩ : ∃ cd, akV n [x] (inS d) = cd := ⟨_, rfl⟩
    have HCD := Lib.hid hcd
    rw [hcd]
    clear hcd
    dsimp only
    refine hK.out _ _ hH2 (fun hHeld => ?_)
    clear hK K hH2
    try simp only [Act.put, List.getElem_toArray, List.getElem_cons_zero, List.getElem_cons_succ, List.setIfInBounds_toArray, List.set_cons_zero, List.set_cons_succ]
    refine wpAnyH_ready (rs := [6]) (by kernel_rfl) (by simp) ?_
    refine AllReadyH.cons rfl (fun K hK => ?_) AllReadyH.nil
    refine if_wanted rfl ?_
    refine wp_assign0 (v := .int .i64 cd) rfl rfl ?_
    refine hK.out _ _ hHeld (fun hHeld => ?_)
    clear hK K
    try simp only [Act.put, List.getElem_toArray, List.getElem_cons_zero, List.getElem_cons_succ, List.setIfInBounds_toArray, List.set_cons_zero, List.set_cons_succ]
    refine wpAnyH_done (by kernel_rfl) ?_ _
    try simp only [Act.put, List.getElem_toArray, List.getElem_cons_zero, List.getElem_cons_succ, List.setIfInBounds_toArray, List.set_cons_zero, List.set_cons_succ]
    have HB2 : Hid (Below w.heap.size w w2) := HB0.out.trans (hHeld.mono HB0.out.size)
    have HK2 : Hid (Blk w2 w.heap.size 29 (vcells x).toArray) := HK0.out.below hHeld HK0.out.lt
    clear hHeld
    by_cases hz : cd = 0
    · subst hz
      obtain ⟨hv, hd⟩ := akV_yes HCD.out
      have E2 : Hid (wuN n x d = unD x d) := if_pos HCD.out
      have hdb : dayB d := by simp only [inS, Bool.and_eq_true, decide_eq_true_eq] at hd; exact ⟨by omega, by omega⟩
      have HD := Lib.hid hdb
      obtain ⟨⟨h1, h60⟩, hw⟩ := vsOk_one hv
      have HXO := Lib.hid (vOk_out hw)
      clear hv hw hd hdb
      go_wp2_with (refine wpList_load_row rfl 29 (.tmp 4) rfl w.heap.size rfl 29 (vcells x).toArray (0, 0) _ HK2.out Tryd.underlying29 rfl (Tryd.sizeVIx x) ?_)
      refine (l05Until_any x HXO.out.1 HXO.out.2.1 d HD.out _).mono ?_
      rintro e w5 ⟨rfl, hb⟩
      have HB4 : Hid (Below w.heap.size w w5) := HB2.out.trans (hb.mono HB2.out.size)
      clear hb
      obtain ⟨u, hu⟩ : ∃ u, unD x d = u := ⟨_, rfl⟩
      have HU : Hid (unD x d = u) := hu
      rw [hu]
      clear hu
      go_wp2
      go_ret2
      exact ⟨by (rw [E2.out, HCD.out, HU.out]; first | done | rfl), HB4.out⟩
    · have E2 : Hid (wuN n x d = 0) := if_neg (by rw [HCD.out]; exact hz)
      have hzb : (cd == 0) = false := by simpa using hz
      go_wp2
      go_ret2
      exact ⟨by (rw [E2.out, HCD.out]; first | done | rfl), HB2.out⟩
end Go.Proofs.YtjiihdljchaeiabDoor
