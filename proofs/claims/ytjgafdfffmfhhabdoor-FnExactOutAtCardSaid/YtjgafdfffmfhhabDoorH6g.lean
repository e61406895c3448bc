/-
  FnExactOutAt: for all arguments the law returns true, and they read as before. No condition but that the sentinel errors hold what the program's text lays (tied).
-/
import Derived.Test.YtjgafdfffmfhhabDoorCards
import Derived.Test.YtjgafdfffmfhhabDoorTie
import Derived.Test.YtjgafdfffmfhhabDoorG
import Derived.Test.YtjgafdfffmfhhabDoorOb
import Derived.Test.YtjgafdfffmfhhabDoorGk
import Derived.Test.YtjgafdfffmfhhabDoorRg
import Derived.SevenTiedAt
namespace Go.Proofs.YtjgafdfffmfhhabDoor
open Go.ChangeShapes Go.WideShapes Go.ChangeAt Go.RowKit Go.Deep

set_option maxRecDepth 100000 in
set_option maxHeartbeats 4000000 in
theorem oaLaw_any (p : Pri) (hwfp : wfP p) (h : Hol) (hwfh : wfH h) (ad : Nat → Addr) (w : World)  (hE : EW 7 w ad) :
    Calls Tryd.prog 3 #[.agg (pcells p).toArray, .agg (hcells h).toArray] w (Good w) := by
  have HWFp := Lib.hid hwfp
  have HWFh := Lib.hid hwfh
  have HE := Lib.hid hE
  clear hE
  clear hwfp hwfh
  obtain ⟨V0, hV0⟩ : ∃ W, w.alloc (.cells (pcells p).toArray 24) = W := ⟨_, rfl⟩
  have hb0 : Below w.heap.size w V0 := by rw [← hV0]; exact (Below.refl _ _).alloc (Nat.le_refl _) _
  have kk0 : Blk V0 w.heap.size 24 (pcells p).toArray := by rw [← hV0]; exact Blk.new w _ _
  have bb0 : Below w.heap.size w V0 := hb0
  obtain ⟨W0, hW0⟩ : ∃ W, V0.alloc (.cells (hcells h).toArray 26) = W := ⟨_, rfl⟩
  have hb1 : Below V0.heap.size V0 W0 := by rw [← hW0]; exact (Below.refl _ _).alloc (Nat.le_refl _) _
  have kk1 : Blk W0 V0.heap.size 26 (hcells h).toArray := by rw [← hW0]; exact Blk.new V0 _ _
  have kk0 := Blk.keep kk0 hb1
  have bb1 : Below w.heap.size w W0 := bb0.trans (hb1.mono bb0.size)
  have KXp_0 := Lib.hid kk0
  have KXh_0 := Lib.hid kk1
  have HB_0 := Lib.hid bb1
  clear kk0 bb0 hb0 kk1 bb1 hb1
  obtain ⟨N, hN⟩ : ∃ N, otN p h = N := ⟨_, rfl⟩
  obtain ⟨C, hC⟩ : ∃ C, otC p h = C := ⟨_, rfl⟩
  have HN := Lib.hid hN
  have HC := Lib.hid hC
  clear hN hC
  have KPr0 : Hid (W0.rangeAt w.heap.size 0 (pcells p)) := fun j v hv => by rw [Nat.zero_add, KXp_0.out.cell]; simpa using hv
  have KHr0 : Hid (W0.rangeAt V0.heap.size 0 (hcells h)) := fun j v hv => by rw [Nat.zero_add, KXh_0.out.cell]; simpa using hv
  have KPl0 : Hid (w.heap.size < W0.heap.size) := KXp_0.out.lt
  have KHl0 : Hid (V0.heap.size < W0.heap.size) := KXh_0.out.lt
  go_enter Tryd.func3, Tryd.ntmps3
  go_wp2_with fail
  clear hV0 hW0
  refine wp_region_held_drew (S := fun w' => Below W0.heap.size W0 w') (by kernel_rfl) (Below.refl _ _).drew (fun hHeld => ?_)
  refine' wpAnyH_take (i := 0) (v := _) rfl (by kernel_rfl) (by kernel_rfl) (by kernel_rfl) (fun _ _ _ h => h) (yieldsIf_load_mid (by rfl) 24 (.tmp 2) rfl w.heap.size (0) rfl (pcells p) _ (fun w' h => fun j v hv => (rangeAt_below KPr0.out h KPl0.out) j v hv) Tryd.underlying24 rfl Tryd.sizePL) (by assumption) ?_
  try simp only [Act.put, List.getElem_toArray, List.getElem_cons_zero, List.getElem_cons_succ, List.setIfInBounds_toArray, List.set_cons_zero, List.set_cons_succ]
  refine' wpAnyH_take (i := 2) (v := _) rfl (by kernel_rfl) (by kernel_rfl) (by kernel_rfl) (fun _ _ _ h => h) (yieldsIf_load_mid (by rfl) 26 (.tmp 3) rfl V0.heap.size (0) rfl (hcells h) _ (fun w' h => fun j v hv => (rangeAt_below KHr0.out h KHl0.out) j v hv) Tryd.underlying26 rfl Tryd.sizeHL) (by assumption) ?_
  try simp only [Act.put, List.getElem_toArray, List.getElem_cons_zero, List.getElem_cons_succ, List.setIfInBounds_toArray, List.set_cons_zero, List.set_cons_succ]
  obtain ⟨D0, hD0⟩ : ∃ D0, W0.drew = D0 := ⟨_, rfl⟩
  rw [hD0] at hHeld ⊢
  clear hD0
  refine wpAnyH_ready (rs := [1]) (by kernel_rfl) (by simp) ?_
  refine AllReadyH.cons rfl (fun K hK => ?_) AllReadyH.nil
  refine if_wanted rfl ?_
  go_simp
  refine (toPrices_any p _).mono ?_
  rintro e z1 ⟨rfl, hb⟩
  have hH2 : Below W0.heap.size W0 z1 := hHeld.trans (hb.mono hHeld.size)
  clear hb hHeld
  dsimp only
  refine hK.out _ _ hH2 (fun hHeld => ?_)
  clear hK K hH2
  try simp only [Act.put, List.getElem_toArray, List.getElem_cons_zero, List.getElem_cons_succ, List.setIfInBounds_toArray, List.set_cons_zero, List.set_cons_succ]
  refine wpAnyH_ready (rs := [3]) (by kernel_rfl) (by simp) ?_
  refine AllReadyH.cons rfl (fun K hK => ?_) AllReadyH.nil
  refine if_wanted rfl ?_
  go_simp
  refine (toHolding_any h _).mono ?_
  rintro e z2 ⟨rfl, hb⟩
  have hH2 : Below W0.heap.size W0 z2 := hHeld.trans (hb.mono hHeld.size)
  clear hb hHeld
  dsimp only
  refine hK.out _ _ hH2 (fun hHeld => ?_)
  clear hK K hH2
  try simp only [Act.put, List.getElem_toArray, List.getElem_cons_zero, List.getElem_cons_succ, List.setIfInBounds_toArray, List.set_cons_zero, List.set_cons_succ]
  refine wpAnyH_ready (rs := [4]) (by kernel_rfl) (by simp) ?_
  refine AllReadyH.cons rfl (fun K hK => ?_) AllReadyH.nil
  refine if_wanted rfl ?_
  go_simp
  refine (specOutAt_any p HWFp.out h _).mono ?_
  rintro e z3 ⟨rfl, hb⟩
  have hH2 : Below W0.heap.size W0 z3 := hHeld.trans (hb.mono hHeld.size)
  rw [HN.out, HC.out]
  clear hb hHeld
  dsimp only
  refine hK.out _ _ hH2 (fun hHeld => ?_)
  clear hK K hH2
  try simp only [Act.put, List.getElem_toArray, List.getElem_cons_zero, List.getElem_cons_succ, List.setIfInBounds_toArray, List.set_cons_zero, List.set_cons_succ]
  refine wpAnyH_take (i := 5) (v := .tuple #[.int .i64 N, .int .i64 C]) rfl (by kernel_rfl) (by kernel_rfl) (by kernel_rfl) (fun _ _ _ h => h) (Or.inl ⟨by rfl, fun w' h => by go_simp⟩) (by assumption) ?_
  try simp only [Act.put, List.getElem_toArray, List.getElem_cons_zero, List.getElem_cons_succ, List.setIfInBounds_toArray, List.set_cons_zero, List.set_cons_succ]
  refine wpAnyH_take (i := 6) (v := .int .i64 N) rfl (by kernel_rfl) (by kernel_rfl) (by kernel_rfl) (fun _ _ _ h => h) (Or.inl ⟨by rfl, fun w' h => by go_simp⟩) (by assumption) ?_
  try simp only [Act.put, List.getElem_toArray, List.getElem_cons_zero, List.getElem_cons_succ, List.setIfInBounds_toArray, List.set_cons_zero, List.set_cons_succ]
  refine wpAnyH_take (i := 7) (v := .int .i64 C) rfl (by kernel_rfl) (by kernel_rfl) (by kernel_rfl) (fun _ _ _ h => h) (Or.inl ⟨by rfl, fun w' h => by go_simp⟩) (by assumption) ?_
  try simp only [Act.put, List.getElem_toArray, List.getElem_cons_zero, List.getElem_cons_succ, List.setIfInBounds_toArray, List.set_cons_zero, List.set_cons_succ]
  refine wpAnyH_ready (rs := [8]) (by kernel_rfl) (by simp) ?_
  refine AllReadyH.cons rfl (fun K hK => ?_) AllReadyH.nil
  refine if_wanted rfl ?_
  refine wp_assign0 (v := .int .i64 N) rfl rfl ?_
  refine hK.out _ _ hHeld (fun hHeld => ?_)
  clear hK K
  try simp only [Act.put, List.getElem_toArray, List.getElem_cons_zero, List.getElem_cons_succ, List.setIfInBounds_toArray, List.set_cons_zero, List.set_cons_succ]
  refine wpAnyH_ready (rs := [9]) (by kernel_rfl) (by simp) ?_
  refine AllReadyH.cons rfl (fun K hK => ?_) AllReadyH.nil
  refine if_wanted rfl ?_
  refine wp_assign0 (v := .int .i64 C) rfl rfl ?_
  refine hK.out _ _ hHeld (fun hHeld => ?_)
  clear hK K
  try simp only [Act.put, List.getElem_toArray, List.getElem_cons_zero, List.getElem_cons_succ, List.setIfInBounds_toArray, List.set_cons_zero, List.set_cons_succ]
  refine wpAnyH_done (by kernel_rfl) ?_ _
  try simp only [Act.put, List.getElem_toArray, List.getElem_cons_zero, List.getElem_cons_succ, List.setIfInBounds_toArray, List.set_cons_zero, List.set_cons_succ]
  have hb := hHeld
  clear hHeld
  have HB_1 : Hid (Below w.heap.size w z3) := HB_0.out.trans (hb.mono HB_0.out.size)
  have KXp_1 : Hid (Blk z3 w.heap.size 24 (pcells p).toArray) := Blk.keep KXp_0.out hb
  have KXh_1 : Hid (Blk z3 V0.heap.size 26 (hcells h).toArray) := Blk.keep KXh_0.out hb
  clear hb
  have KPr1 : Hid (z3.rangeAt w.heap.size 0 (pcells p)) := fun j v hv => by rw [Nat.zero_add, KXp_1.out.cell]; simpa using hv
  have KHr1 : Hid (z3.rangeAt V0.heap.size 0 (hcells h)) := fun j v hv => by rw [Nat.zero_add, KXh_1.out.cell]; simpa using hv
  have KPl1 : Hid (w.heap.size < z3.heap.size) := KXp_1.out.lt
  have KHl1 : Hid (V0.heap.size < z3.heap.size) := KXh_1.out.lt
  go_wp2_with fail
  refine wp_region_held_drew (S := fun w' => Below z3.heap.size z3 w') (by kernel_rfl) (Below.refl _ _).drew (fun hHeld => ?_)
  refine' wpAnyH_take (i := 0) (v := _) rfl (by kernel_rfl) (by kernel_rfl) (by kernel_rfl) (fun _ _ _ h => h) (yieldsIf_load_mid (by rfl) 24 (.tmp 2) rfl w.heap.size (0) rfl (pcells p) _ (fun w' h => fun j v hv => (rangeAt_below KPr1.out h KPl1.out) j v hv) Tryd.underlying24 rfl Tryd.sizePL) (by assumption) ?_
  try simp only [Act.put, List.getElem_toArray, List.getElem_cons_zero, List.getElem_cons_succ, List.setIfInBounds_toArray, List.set_cons_zero, List.set_cons_succ]
  refine' wpAnyH_take (i := 2) (v := _) rfl (by kernel_rfl) (by kernel_rfl) (by kernel_rfl) (fun _ _ _ h => h) (yieldsIf_load_mid (by rfl) 26 (.tmp 3) rfl V0.heap.size (0) rfl (hcells h) _ (fun w' h => fun j v hv => (rangeAt_below KHr1.out h KHl1.out) j v hv) Tryd.underlying26 rfl Tryd.sizeHL) (by assumption) ?_
  try simp only [Act.put, List.getElem_toArray, List.getElem_cons_zero, List.getElem_cons_succ, List.setIfInBounds_toArray, List.set_cons_zero, List.set_cons_succ]
  obtain ⟨D1, hD1⟩ : ∃ D1, z3.drew = D1 := ⟨_, rfl⟩
  rw [hD1] at hHeld ⊢
  clear hD1
  refine wpAnyH_ready (rs := [1]) (by kernel_rfl) (by simp) ?_
  refine AllReadyH.cons rfl (fun K hK => ?_) AllReadyH.nil
  refine if_wanted rfl ?_
  go_simp
  refine (toPrices_any p _).mono ?_
  rintro e y1 ⟨rfl, hb⟩
  have hH2 : Below z3.heap.size z3 y1 := hHeld.trans (hb.mono hHeld.size)
  clear hb hHeld
  dsimp only
  refine hK.out _ _ hH2 (fun hHeld => ?_)
  clear hK K hH2
  try simp only [Act.put, List.getElem_toArray, List.getElem_cons_zero, List.getElem_cons_succ, List.setIfInBounds_toArray, List.set_cons_zero, List.set_cons_succ]
  refine wpAnyH_ready (rs := [3]) (by kernel_rfl) (by simp) ?_
  refine AllReadyH.cons rfl (fun K hK => ?_) AllReadyH.nil
  refine if_wanted rfl ?_
  go_simp
  refine (toHolding_any h _).mono ?_
  rintro e y2 ⟨rfl, hb⟩
  have hH2 : Below z3.heap.size z3 y2 := hHeld.trans (hb.mono hHeld.size)
  clear hb hHeld
  dsimp only
  refine hK.out _ _ hH2 (fun hHeld => ?_)
  clear hK K hH2
  try simp only [Act.put, List.getElem_toArray, List.getElem_cons_zero, List.getElem_cons_succ, List.setIfInBounds_toArray, List.set_cons_zero, List.set_cons_succ]
  refine wpAnyH_ready (rs := [4]) (by kernel_rfl) (by simp) ?_
  refine AllReadyH.cons rfl (fun K hK => ?_) AllReadyH.nil
  refine if_wanted rfl ?_
  go_simp
  refine (implOutAt_any p HWFp.out h HWFh.out ad _ (HE.out.below (HB_1.out.trans (hHeld.mono HB_1.out.size)) (Nat.le_refl _))).mono ?_
  rintro e y3 ⟨rfl, hb⟩
  have hH2 : Below z3.heap.size z3 y3 := hHeld.trans (hb.mono hHeld.size)
  rw [HN.out, HC.out]
  clear hb hHeld
  dsimp only
  refine hK.out _ _ hH2 (fun hHeld => ?_)
  clear hK K hH2
  try simp only [Act.put, List.getElem_toArray, List.getElem_cons_zero, List.getElem_cons_succ, List.setIfInBounds_toArray, List.set_cons_zero, List.set_cons_succ]
  refine wpAnyH_take (i := 5) (v := .tuple #[.int .i64 N, .int .i64 C]) rfl (by kernel_rfl) (by kernel_rfl) (by kernel_rfl) (fun _ _ _ h => h) (Or.inl ⟨by rfl, fun w' h => by go_simp⟩) (by assumption) ?_
  try simp only [Act.put, List.getElem_toArray, List.getElem_cons_zero, List.getElem_cons_succ, List.setIfInBounds_toArray, List.set_cons_zero, List.set_cons_succ]
  refine wpAnyH_take (i := 6) (v := .int .i64 N) rfl (by kernel_rfl) (by kernel_rfl) (by kernel_rfl) (fun _ _ _ h => h) (Or.inl ⟨by rfl, fun w' h => by go_simp⟩) (by assumption) ?_
  try simp only [Act.put, List.getElem_toArray, List.getElem_cons_zero, List.getElem_cons_succ, List.setIfInBounds_toArray, List.set_cons_zero, List.set_cons_succ]
  refine wpAnyH_take (i := 7) (v := .int .i64 C) rfl (by kernel_rfl) (by kernel_rfl) (by kernel_rfl) (fun _ _ _ h => h) (Or.inl ⟨by rfl, fun w' h => by go_simp⟩) (by assumption) ?_
  try simp only [Act.put, List.getElem_toArray, List.getElem_cons_zero, List.getElem_cons_succ, List.setIfInBounds_toArray, List.set_cons_zero, List.set_cons_succ]
  refine wpAnyH_ready (rs := [8]) (by kernel_rfl) (by simp) ?_
  refine AllReadyH.cons rfl (fun K hK => ?_) AllReadyH.nil
  refine if_wanted rfl ?_
  refine wp_assign0 (v := .int .i64 N) rfl rfl ?_
  refine hK.out _ _ hHeld (fun hHeld => ?_)
  clear hK K
  try simp only [Act.put, List.getElem_toArray, List.getElem_cons_zero, List.getElem_cons_succ, List.setIfInBounds_toArray, List.set_cons_zero, List.set_cons_succ]
  refine wpAnyH_ready (rs := [9]) (by kernel_rfl) (by simp) ?_
  refine AllReadyH.cons rfl (fun K hK => ?_) AllReadyH.nil
  refine if_wanted rfl ?_
  refine wp_assign0 (v := .int .i64 C) rfl rfl ?_
  refine hK.out _ _ hHeld (fun hHeld => ?_)
  clear hK K
  try simp only [Act.put, List.getElem_toArray, List.getElem_cons_zero, List.getElem_cons_succ, List.setIfInBounds_toArray, List.set_cons_zero, List.set_cons_succ]
  refine wpAnyH_done (by kernel_rfl) ?_ _
  try simp only [Act.put, List.getElem_toArray, List.getElem_cons_zero, List.getElem_cons_succ, List.setIfInBounds_toArray, List.set_cons_zero, List.set_cons_succ]
  have hb := hHeld
  clear hHeld
  have HB_2 : Hid (Below w.heap.size w y3) := HB_1.out.trans (hb.mono HB_1.out.size)
  clear hb
  go_wp2
  go_ret
  exact ⟨rfl, HB_2.out⟩
end Go.Proofs.YtjgafdfffmfhhabDoor
