/-
  FnExactMeetingDay: for all arguments the law returns true, and they read as before. No condition but that the sentinel errors hold what the program's text lays (tied).
-/
import Derived.Test.YtlfamfdgphhbcaaDoorCards
import Derived.Test.YtlfamfdgphhbcaaDoorTie
import Derived.Test.YtlfamfdgphhbcaaDoorG
import Derived.Test.YtlfamfdgphhbcaaDoorYk6
import Derived.Test.YtlfamfdgphhbcaaDoorGk
import Derived.Test.YtlfamfdgphhbcaaDoorRg
import Derived.SevenTiedAt
namespace Go.Proofs.YtlfamfdgphhbcaaDoor
open Go.ChangeShapes Go.WideShapes Go.ChangeAt Go.RowKit Go.Deep

set_option maxRecDepth 100000 in
set_option maxHeartbeats 4000000 in
theorem mtdLaw_any (a : Wal) (hwfa : wfV a) (b : Wal) (hwfb : wfV b) (n : Int) (f : Int) (ad : Nat → Addr) (w : World)  (hsn : wfI6 n) (hsf : wfI6 f) (hE : EW 7 w ad) :
    Calls Tryd.prog 3 #[.int .i64 n, .agg (vcells a).toArray, .agg (vcells b).toArray, .int .i64 f] w (Good w) := by
  have HWFa := Lib.hid hwfa
  have HWFb := Lib.hid hwfb
  have HSn := Lib.hid hsn
  have HSf := Lib.hid hsf
  have HE := Lib.hid hE
  clear hE
  clear hwfa hwfb hsn hsf
  obtain ⟨V0, hV0⟩ : ∃ W, w.alloc (.cells (vcells a).toArray 25) = W := ⟨_, rfl⟩
  have hb0 : Below w.heap.size w V0 := by rw [← hV0]; exact (Below.refl _ _).alloc (Nat.le_refl _) _
  have kk0 : Blk V0 w.heap.size 25 (vcells a).toArray := by rw [← hV0]; exact Blk.new w _ _
  have bb0 : Below w.heap.size w V0 := hb0
  obtain ⟨W0, hW0⟩ : ∃ W, V0.alloc (.cells (vcells b).toArray 25) = W := ⟨_, rfl⟩
  have hb1 : Below V0.heap.size V0 W0 := by rw [← hW0]; exact (Below.refl _ _).alloc (Nat.le_refl _) _
  have kk1 : Blk W0 V0.heap.size 25 (vcells b).toArray := by rw [← hW0]; exact Blk.new V0 _ _
  have kk0 := Blk.keep kk0 hb1
  have bb1 : Below w.heap.size w W0 := bb0.trans (hb1.mono bb0.size)
  have KXa_0 := Lib.hid kk0
  have KXb_0 := Lib.hid kk1
  have HB_0 := Lib.hid bb1
  clear kk0 bb0 hb0 kk1 bb1 hb1
  obtain ⟨N, hN⟩ : ∃ N, mtV n a b f = N := ⟨_, rfl⟩
  obtain ⟨C, hC⟩ : ∃ C, mtC n a b f = C := ⟨_, rfl⟩
  have HN := Lib.hid hN
  have HC := Lib.hid hC
  clear hN hC
  have KPr0 : Hid (W0.rangeAt w.heap.size 0 (vcells a)) := fun j v hv => by rw [Nat.zero_add, KXa_0.out.cell]; simpa using hv
  have KHr0 : Hid (W0.rangeAt V0.heap.size 0 (vcells b)) := fun j v hv => by rw [Nat.zero_add, KXb_0.out.cell]; simpa using hv
  have KPl0 : Hid (w.heap.size < W0.heap.size) := KXa_0.out.lt
  have KHl0 : Hid (V0.heap.size < W0.heap.size) := KXb_0.out.lt
  go_enter Tryd.func3, Tryd.ntmps3
  go_wp2_with fail
  clear hV0 hW0
  refine wp_region_held_drew (S := fun w' => Below W0.heap.size W0 w') (by kernel_rfl) (Below.refl _ _).drew (fun hHeld => ?_)
  refine wpAnyH_take (i := 0) (v := .int .i64 n) rfl (by kernel_rfl) (by kernel_rfl) (by kernel_rfl) (fun _ _ _ h => h) (Or.inl ⟨by rfl, fun w' h => by go_simp⟩) (by assumption) ?_
  try simp only [Act.put, List.getElem_toArray, List.getElem_cons_zero, List.getElem_cons_succ, List.setIfInBounds_toArray, List.set_cons_zero, List.set_cons_succ]
  refine' wpAnyH_take (i := 1) (v := _) rfl (by kernel_rfl) (by kernel_rfl) (by kernel_rfl) (fun _ _ _ h => h) (yieldsIf_load_mid (by rfl) 25 (.tmp 5) rfl w.heap.size (0) rfl (vcells a) _ (fun w' h => fun j v hv => (rangeAt_below KPr0.out h KPl0.out) j v hv) Tryd.underlying25 rfl Tryd.sizeVL) (by assumption) ?_
  try simp only [Act.put, List.getElem_toArray, List.getElem_cons_zero, List.getElem_cons_succ, List.setIfInBounds_toArray, List.set_cons_zero, List.set_cons_succ]
  refine' wpAnyH_take (i := 3) (v := _) rfl (by kernel_rfl) (by kernel_rfl) (by kernel_rfl) (fun _ _ _ h => h) (yieldsIf_load_mid (by rfl) 25 (.tmp 6) rfl V0.heap.size (0) rfl (vcells b) _ (fun w' h => fun j v hv => (rangeAt_below KHr0.out h KHl0.out) j v hv) Tryd.underlying25 rfl Tryd.sizeVL) (by assumption) ?_
  try simp only [Act.put, List.getElem_toArray, List.getElem_cons_zero, List.getElem_cons_succ, List.setIfInBounds_toArray, List.set_cons_zero, List.set_cons_succ]
  refine wpAnyH_take (i := 5) (v := .int .i64 f) rfl (by kernel_rfl) (by kernel_rfl) (by kernel_rfl) (fun _ _ _ h => h) (Or.inl ⟨by rfl, fun w' h => by go_simp⟩) (by assumption) ?_
  try simp only [Act.put, List.getElem_toArray, List.getElem_cons_zero, List.getElem_cons_succ, List.setIfInBounds_toArray, List.set_cons_zero, List.set_cons_succ]
  obtain ⟨D0, hD0⟩ : ∃ D0, W0.drew = D0 := ⟨_, rfl⟩
  rw [hD0] at hHeld ⊢
  clear hD0
  refine wpAnyH_ready (rs := [2]) (by kernel_rfl) (by simp) ?_
  refine AllReadyH.cons rfl (fun K hK => ?_) AllReadyH.nil
  refine if_wanted rfl ?_
  go_simp
  refine (toWalker_any a _).mono ?_
  rintro e z1 ⟨rfl, hb⟩
  have hH2 : Below W0.heap.size W0 z1 := hHeld.trans (hb.mono hHeld.size)
  clear hb hHeld
  dsimp only
  refine hK.out _ _ hH2 (fun hHeld => ?_)
  clear hK K hH2
  try simp only [Act.put, List.getElem_toArray, List.getElem_cons_zero, List.getElem_cons_succ, List.setIfInBounds_toArray, List.set_cons_zero, List.set_cons_succ]
  refine wpAnyH_ready (rs := [4]) (by kernel_rfl) (by simp) ?_
  refine AllReadyH.cons rfl (fun K hK => ?_) AllReadyH.nil
  refine if_wanted rfl ?_
  go_simp
  refine (toWalker_any b _).mono ?_
  rintro e z2 ⟨rfl, hb⟩
  have hH2 : Below W0.heap.size W0 z2 := hHeld.trans (hb.mono hHeld.size)
  clear hb hHeld
  dsimp only
  refine hK.out _ _ hH2 (fun hHeld => ?_)
  clear hK K hH2
  try simp only [Act.put, List.getElem_toArray, List.getElem_cons_zero, List.getElem_cons_succ, List.setIfInBounds_toArray, List.set_cons_zero, List.set_cons_succ]
  refine wpAnyH_ready (rs := [6]) (by kernel_rfl) (by simp) ?_
  refine AllReadyH.cons rfl (fun K hK => ?_) AllReadyH.nil
  refine if_wanted rfl ?_
  go_simp
  refine (specMeet_any n HSn.out a b HWFa.out HWFb.out f _).mono ?_
  rintro e z3 ⟨rfl, hb⟩
  have hH2 : Below W0.heap.size W0 z3 := hHeld.trans (hb.mono hHeld.size)
  rw [HN.out, HC.out]
  clear hb hHeld
  dsimp only
  refine hK.out _ _ hH2 (fun hHeld => ?_)
  clear hK K hH2
  try simp only [Act.put, List.getElem_toArray, List.getElem_cons_zero, List.getElem_cons_succ, List.setIfInBounds_toArray, List.set_cons_zero, List.set_cons_succ]
  refine wpAnyH_take (i := 7) (v := .tuple #[.int .i64 N, .int .i64 C]) rfl (by kernel_rfl) (by kernel_rfl) (by kernel_rfl) (fun _ _ _ h => h) (Or.inl ⟨by rfl, fun w' h => by go_simp⟩) (by assumption) ?_
  try simp only [Act.put, List.getElem_toArray, List.getElem_cons_zero, List.getElem_cons_succ, List.setIfInBounds_toArray, List.set_cons_zero, List.set_cons_succ]
  refine wpAnyH_take (i := 8) (v := .int .i64 N) rfl (by kernel_rfl) (by kernel_rfl) (by kernel_rfl) (fun _ _ _ h => h) (Or.inl ⟨by rfl, fun w' h => by go_simp⟩) (by assumption) ?_
  try simp only [Act.put, List.getElem_toArray, List.getElem_cons_zero, List.getElem_cons_succ, List.setIfInBounds_toArray, List.set_cons_zero, List.set_cons_succ]
  refine wpAnyH_take (i := 9) (v := .int .i64 C) rfl (by kernel_rfl) (by kernel_rfl) (by kernel_rfl) (fun _ _ _ h => h) (Or.inl ⟨by rfl, fun w' h => by go_simp⟩) (by assumption) ?_
  try simp only [Act.put, List.getElem_toArray, List.getElem_cons_zero, List.getElem_cons_succ, List.setIfInBounds_toArray, List.set_cons_zero, List.set_cons_succ]
  refine wpAnyH_ready (rs := [10]) (by kernel_rfl) (by simp) ?_
  refine AllReadyH.cons rfl (fun K hK => ?_) AllReadyH.nil
  refine if_wanted rfl ?_
  refine wp_assign0 (v := .int .i64 N) rfl rfl ?_
  refine hK.out _ _ hHeld (fun hHeld => ?_)
  clear hK K
  try simp only [Act.put, List.getElem_toArray, List.getElem_cons_zero, List.getElem_cons_succ, List.setIfInBounds_toArray, List.set_cons_zero, List.set_cons_succ]
  refine wpAnyH_ready (rs := [11]) (by kernel_rfl) (by simp) ?_
  refine AllReadyH.cons rfl (fun K hK => ?_) AllReadyH.nil
  refine if_wanted rfl ?_
  refine wp_assign0 (v := .int .i64 C) rfl rfl ?_
  refine hK.out _ _ hHeld (fun hHeld => ?_)
  clear hK K
  try simp only [Act.put, List.getElem_toArray, List.getElem_cons_zero, List.getElem_cons_succ, List.setIfInBounds_toArray, List.set_cons_zero, List.set_cons_succ]
  refine wpAnyH_done (by kernel_rfl) ?_ _
  try simp only [Act.put, List.getElem_toArray, List.getElem_cons_zero, List.getElem_cons_succ, List.setIfInBounds_toArray, List.set_cons_zero, List.set_cons_succ]
  have hb := hHeld
  clear hHeld
  have HB_1 : Hid (Below w.heap.size w z3) := HB_0.out.trans (hb.mono HB_0.out.size)
  have KXa_1 : Hid (Blk z3 w.heap.size 25 (vcells a).toArray) := Blk.keep KXa_0.out hb
  have KXb_1 : Hid (Blk z3 V0.heap.size 25 (vcells b).toArray) := Blk.keep KXb_0.out hb
  clear hb
  have KPr1 : Hid (z3.rangeAt w.heap.size 0 (vcells a)) := fun j v hv => by rw [Nat.zero_add, KXa_1.out.cell]; simpa using hv
  have KHr1 : Hid (z3.rangeAt V0.heap.size 0 (vcells b)) := fun j v hv => by rw [Nat.zero_add, KXb_1.out.cell]; simpa using hv
  have KPl1 : Hid (w.heap.size < z3.heap.size) := KXa_1.out.lt
  have KHl1 : Hid (V0.heap.size < z3.heap.size) := KXb_1.out.lt
  go_wp2_with fail
  refine wp_region_held_drew (S := fun w' => Below z3.heap.size z3 w') (by kernel_rfl) (Below.refl _ _).drew (fun hHeld => ?_)
  refine wpAnyH_take (i := 0) (v := .int .i64 n) rfl (by kernel_rfl) (by kernel_rfl) (by kernel_rfl) (fun _ _ _ h => h) (Or.inl ⟨by rfl, fun w' h => by go_simp⟩) (by assumption) ?_
  try simp only [Act.put, List.getElem_toArray, List.getElem_cons_zero, List.getElem_cons_succ, List.setIfInBounds_toArray, List.set_cons_zero, List.set_cons_succ]
  refine' wpAnyH_take (i := 1) (v := _) rfl (by kernel_rfl) (by kernel_rfl) (by kernel_rfl) (fun _ _ _ h => h) (yieldsIf_load_mid (by rfl) 25 (.tmp 5) rfl w.heap.size (0) rfl (vcells a) _ (fun w' h => fun j v hv => (rangeAt_below KPr1.out h KPl1.out) j v hv) Tryd.underlying25 rfl Tryd.sizeVL) (by assumption) ?_
  try simp only [Act.put, List.getElem_toArray, List.getElem_cons_zero, List.getElem_cons_succ, List.setIfInBounds_toArray, List.set_cons_zero, List.set_cons_succ]
  refine' wpAnyH_take (i := 3) (v := _) rfl (by kernel_rfl) (by kernel_rfl) (by kernel_rfl) (fun _ _ _ h => h) (yieldsIf_load_mid (by rfl) 25 (.tmp 6) rfl V0.heap.size (0) rfl (vcells b) _ (fun w' h => fun j v hv => (rangeAt_below KHr1.out h KHl1.out) j v hv) Tryd.underlying25 rfl Tryd.sizeVL) (by assumption) ?_
  try simp only [Act.put, List.getElem_toArray, List.getElem_cons_zero, List.getElem_cons_succ, List.setIfInBounds_toArray, List.set_cons_zero, List.set_cons_succ]
  refine wpAnyH_take (i := 5) (v := .int .i64 f) rfl (by kernel_rfl) (by kernel_rfl) (by kernel_rfl) (fun _ _ _ h => h) (Or.inl ⟨by rfl, fun w' h => by go_simp⟩) (by assumption) ?_
  try simp only [Act.put, List.getElem_toArray, List.getElem_cons_zero, List.getElem_cons_succ, List.setIfInBounds_toArray, List.set_cons_zero, List.set_cons_succ]
  obtain ⟨D1, hD1⟩ : ∃ D1, z3.drew = D1 := ⟨_, rfl⟩
  rw [hD1] at hHeld ⊢
  clear hD1
  refine wpAnyH_ready (rs := [2]) (by kernel_rfl) (by simp) ?_
  refine AllReadyH.cons rfl (fun K hK => ?_) AllReadyH.nil
  refine if_wanted rfl ?_
  go_simp
  refine (toWalker_any a _).mono ?_
  rintro e y1 ⟨rfl, hb⟩
  have hH2 : Below z3.heap.size z3 y1 := hHeld.trans (hb.mono hHeld.size)
  clear hb hHeld
  dsimp only
  refine hK.out _ _ hH2 (fun hHeld => ?_)
  clear hK K hH2
  try simp only [Act.put, List.getElem_toArray, List.getElem_cons_zero, List.getElem_cons_succ, List.setIfInBounds_toArray, List.set_cons_zero, List.set_cons_succ]
  refine wpAnyH_ready (rs := [4]) (by kernel_rfl) (by simp) ?_
  refine AllReadyH.cons rfl (fun K hK => ?_) AllReadyH.nil
  refine if_wanted rfl ?_
  go_simp
  refine (toWalker_any b _).mono ?_
  rintro e y2 ⟨rfl, hb⟩
  have hH2 : Below z3.heap.size z3 y2 := hHeld.trans (hb.mono hHeld.size)
  clear hb hHeld
  dsimp only
  refine hK.out _ _ hH2 (fun hHeld => ?_)
  clear hK K hH2
  try simp only [Act.put, List.getElem_toArray, List.getElem_cons_zero, List.getElem_cons_succ, List.setIfInBounds_toArray, List.set_cons_zero, List.set_cons_succ]
  refine wpAnyH_ready (rs := [6]) (by kernel_rfl) (by simp) ?_
  refine AllReadyH.cons rfl (fun K hK => ?_) AllReadyH.nil
  refine if_wanted rfl ?_
  go_simp
  refine (implMeet_any n HSn.out a b HWFa.out HWFb.out f ad _ (HE.out.below (HB_1.out.trans (hHeld.mono HB_1.out.size)) (Nat.le_refl _))).mono ?_
  rintro e y3 ⟨rfl, hb⟩
  have hH2 : Below z3.heap.size z3 y3 := hHeld.trans (hb.mono hHeld.size)
  rw [HN.out, HC.out]
  clear hb hHeld
  dsimp only
  refine hK.out _ _ hH2 (fun hHeld => ?_)
  clear hK K hH2
  try simp only [Act.put, List.getElem_toArray, List.getElem_cons_zero, List.getElem_cons_succ, List.setIfInBounds_toArray, List.set_cons_zero, List.set_cons_succ]
  refine wpAnyH_take (i := 7) (v := .tuple #[.int .i64 N, .int .i64 C]) rfl (by kernel_rfl) (by kernel_rfl) (by kernel_rfl) (fun _ _ _ h => h) (Or.inl ⟨by rfl, fun w' h => by go_simp⟩) (by assumption) ?_
  try simp only [Act.put, List.getElem_toArray, List.getElem_cons_zero, List.getElem_cons_succ, List.setIfInBounds_toArray, List.set_cons_zero, List.set_cons_succ]
  refine wpAnyH_take (i := 8) (v := .int .i64 N) rfl (by kernel_rfl) (by kernel_rfl) (by kernel_rfl) (fun _ _ _ h => h) (Or.inl ⟨by rfl, fun w' h => by go_simp⟩) (by assumption) ?_
  try simp only [Act.put, List.getElem_toArray, List.getElem_cons_zero, List.getElem_cons_succ, List.setIfInBounds_toArray, List.set_cons_zero, List.set_cons_succ]
  refine wpAnyH_take (i := 9) (v := .int .i64 C) rfl (by kernel_rfl) (by kernel_rfl) (by kernel_rfl) (fun _ _ _ h => h) (Or.inl ⟨by rfl, fun w' h => by go_simp⟩) (by assumption) ?_
  try simp only [Act.put, List.getElem_toArray, List.getElem_cons_zero, List.getElem_cons_succ, List.setIfInBounds_toArray, List.set_cons_zero, List.set_cons_succ]
  refine wpAnyH_ready (rs := [10]) (by kernel_rfl) (by simp) ?_
  refine AllReadyH.cons rfl (fun K hK => ?_) AllReadyH.nil
  refine if_wanted rfl ?_
  refine wp_assign0 (v := .int .i64 N) rfl rfl ?_
  refine hK.out _ _ hHeld (fun hHeld => ?_)
  clear hK K
  try simp only [Act.put, List.getElem_toArray, List.getElem_cons_zero, List.getElem_cons_succ, List.setIfInBounds_toArray, List.set_cons_zero, List.set_cons_succ]
  refine wpAnyH_ready (rs := [11]) (by kernel_rfl) (by simp) ?_
  refine AllReadyH.cons rfl (fun K hK => ?_) AllReadyH.nil
  refine if_wanted rfl ?_
  refine wp_assign0 (v := .int .i64 C) rfl rfl ?_
  refine hK.out _ _ hHeld (fun hHeld => ?_)
  clear hK K
  try simp only [Act.put, List.getElem_toArray, List.getElem_cons_zero, List.getElem_cons_succ, List.setIfInBounds_toArray, List.set_cons_zero, List.set_cons_succ]
  refine wpAnyH_done (by kernel_rfl) ?_ _
  try simp only [Act.put, List.getElem_toArray, List.getElem_cons_zero, List.getElem_cons_succ, List.setIfInBounds_toArray, List.set_cons_zero, List.set_cons_succ]
  have hb := hHeld
  clear hHeld
  have HB_2 : Hid (Below w.heap.size w y3) := HB_1.out.trans (hb.mono HB_1.out.size)
  clear hb
  go_wp2
  go_ret
  exact ⟨rfl, HB_2.out⟩
end Go.Proofs.YtlfamfdgphhbcaaDoor
