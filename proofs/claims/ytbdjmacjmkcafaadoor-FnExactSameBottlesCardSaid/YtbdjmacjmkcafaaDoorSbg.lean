/-
  FnExactSameBottles: for all crates the law returns true, and its arguments read as before. No condition but that the sentinel errors hold what the program's text lays (tied).
-/
import Derived.Test.YtbdjmacjmkcafaaDoorCards
import Derived.Test.YtbdjmacjmkcafaaDoorTie
import Derived.Test.YtbdjmacjmkcafaaDoorG
import Derived.Test.YtbdjmacjmkcafaaDoorSb1
import Derived.SevenTiedAt
namespace Go.Proofs.YtbdjmacjmkcafaaDoor
open Go.ChangeShapes Go.WideShapes Go.ChangeAt Go.RowKit Go.Deep


set_option maxRecDepth 100000 in
set_option maxHeartbeats 4000000 in
theorem sbLaw_any (cs bs : List Bot) (hwa : WfC cs) (hwb : WfC bs) (ad : Nat → Addr) (w : World) (hE : EW 7 w ad) : Calls Tryd.prog 3 #[.agg (ccells cs).toArray, .agg (ccells bs).toArray] w (Good w) := by
  have HW := Lib.hid hwa
  have HW2 := Lib.hid hwb
  have HE := Lib.hid hE
  clear hwa hwb hE
  have h0 : Below w.heap.size w (w.alloc (.cells (ccells cs).toArray 25)) := (Below.refl _ w).alloc (Nat.le_refl _) _
  have h1 : CBlk ((w.alloc (.cells (ccells cs).toArray 25)).alloc (.cells (ccells bs).toArray 25)) w.heap.size 25 cs := (CBlk.new w 25 cs).alloc _
  have h2 : CBlk ((w.alloc (.cells (ccells cs).toArray 25)).alloc (.cells (ccells bs).toArray 25)) (w.heap.size + 1) 25 bs := CBlk.new' (by simp) rfl
  have h3 : Below w.heap.size w ((w.alloc (.cells (ccells cs).toArray 25)).alloc (.cells (ccells bs).toArray 25)) := h0.alloc h0.size _
  obtain ⟨W0, hW0⟩ : ∃ W0, (w.alloc (.cells (ccells cs).toArray 25)).alloc (.cells (ccells bs).toArray 25) = W0 := ⟨_, rfl⟩
  rw [hW0] at h1 h2 h3
  have HL0 := Lib.hid h1
  have HM0 := Lib.hid h2
  have HB0 := Lib.hid h3
  clear h0 h1 h2 h3
  have HS : Hid (∀ W, Calls Tryd.prog 4 #[.agg (ccells cs).toArray, .agg (ccells bs).toArray] W fun e w' => e = .returned (.tuple #[.bool (sbB cs bs), .int .i64 (sbC cs bs)]) ∧ Below W.heap.size W w') := specSame_any cs bs HW.out HW2.out
  have HI : Hid (∀ W, EW 7 W ad → Calls Tryd.prog 6 #[.agg (ccells cs).toArray, .agg (ccells bs).toArray] W fun e w' => e = .returned (.tuple #[.bool (sbB cs bs), .int .i64 (sbC cs bs)]) ∧ Below W.heap.size W w') := fun W hW => implSame_any cs bs HW.out HW2.out ad W hW
  obtain ⟨bo, hbo⟩ : ∃ b, sbB cs bs = b := ⟨_, rfl⟩
  obtain ⟨cd, hcd⟩ : ∃ c, sbC cs bs = c := ⟨_, rfl⟩
  rw [hbo, hcd] at HS HI
  clear hbo hcd
  go_enter Tryd.func3, Tryd.ntmps3
  go_wp2_with fail
  clear hW0
  refine wp_region_held_drew (S := fun w' => Below W0.heap.size W0 w') (by kernel_rfl) (Below.refl _ _).drew (fun hHeld => ?_)
  refine' wpAnyH_take (i := 0) (v := _) rfl (by kernel_rfl) (by kernel_rfl) (by kernel_rfl) (fun _ _ _ h => h) (yieldsIf_load_mid (by rfl) 25 (.tmp 2) rfl w.heap.size 0 rfl (ccells cs) _ (fun w h => CBlk.range (HL0.out.below h HL0.out.lt)) Tryd.underlying25 rfl (size_of_crate Tryd.sizeLc _ HW.out.1)) (by assumption) ?_
  try simp only [Act.put, List.getElem_toArray, List.getElem_cons_zero, List.getElem_cons_succ, List.setIfInBounds_toArray, List.set_cons_zero, List.set_cons_succ]
  refine' wpAnyH_take (i := 2) (v := _) rfl (by kernel_rfl) (by kernel_rfl) (by kernel_rfl) (fun _ _ _ h => h) (yieldsIf_load_mid (by rfl) 25 (.tmp 3) rfl (w.heap.size + 1) 0 rfl (ccells bs) _ (fun w h => CBlk.range (HM0.out.below h HM0.out.lt)) Tryd.underlying25 rfl (size_of_crate Tryd.sizeLc _ HW2.out.1)) (by assumption) ?_
  try simp only [Act.put, List.getElem_toArray, List.getElem_cons_zero, List.getElem_cons_succ, List.setIfInBounds_toArray, List.set_cons_zero, List.set_cons_succ]
  obtain ⟨D0, hD0⟩ : ∃ D0, W0.drew = D0 := ⟨_, rfl⟩
  rw [hD0] at hHeld ⊢
  clear hD0
  refine wpAnyH_ready (rs := [1]) (by kernel_rfl) (by simp) ?_
  refine AllReadyH.cons rfl (fun K hK => ?_) AllReadyH.nil
  refine if_wanted rfl ?_
  go_simp
  refine (toCrate_any cs HW.out.1 _).mono ?_
  rintro e y1 ⟨rfl, hb⟩
  have hH2 : Below W0.heap.size W0 y1 := hHeld.trans (hb.mono hHeld.size)
  clear hb hHeld
  dsimp only
  refine hK.out _ _ hH2 (fun hHeld => ?_)
  clear hK K hH2
  try simp only [Act.put, List.getElem_toArray, List.getElem_cons_zero, List.getElem_cons_succ, List.setIfInBounds_toArray, List.set_cons_zero, List.set_cons_succ]
  refine wpAnyH_ready (rs := [3]) (by kernel_rfl) (by simp) ?_
  refine AllReadyH.cons rfl (fun K hK => ?_) AllReadyH.nil
  refine if_wanted rfl ?_
  go_simp
  refine (toCrate_any bs HW2.out.1 _).mono ?_
  rintro e y2 ⟨rfl, hb⟩
  have hH2 : Below W0.heap.size W0 y2 := hHeld.trans (hb.mono hHeld.size)
  clear hb hHeld
  dsimp only
  refine hK.out _ _ hH2 (fun hHeld => ?_)
  clear hK K hH2
  try simp only [Act.put, List.getElem_toArray, List.getElem_cons_zero, List.getElem_cons_succ, List.setIfInBounds_toArray, List.set_cons_zero, List.set_cons_succ]
  refine wpAnyH_ready (rs := [4]) (by kernel_rfl) (by simp) ?_
  refine AllReadyH.cons rfl (fun K hK => ?_) AllReadyH.nil
  refine if_wanted rfl ?_
  go_simp
  refine (HS.out _).mono ?_
  rintro e w1 ⟨rfl, hb⟩
  have hH2 : Below W0.heap.size W0 w1 := hHeld.trans (hb.mono hHeld.size)
  have hbase := hHeld.size
  clear hb hHeld
  dsimp only
  refine hK.out _ _ hH2 (fun hHeld => ?_)
  clear hK K hH2
  try simp only [Act.put, List.getElem_toArray, List.getElem_cons_zero, List.getElem_cons_succ, List.setIfInBounds_toArray, List.set_cons_zero, List.set_cons_succ]
  refine wpAnyH_take (i := 5) (v := .tuple #[.bool bo, .int .i64 cd]) rfl (by kernel_rfl) (by kernel_rfl) (by kernel_rfl) (fun _ _ _ h => h) (Or.inl ⟨by rfl, fun w' h => by go_simp⟩) (by assumption) ?_
  try simp only [Act.put, List.getElem_toArray, List.getElem_cons_zero, List.getElem_cons_succ, List.setIfInBounds_toArray, List.set_cons_zero, List.set_cons_succ]
  refine wpAnyH_take (i := 6) (v := .bool bo) rfl (by kernel_rfl) (by kernel_rfl) (by kernel_rfl) (fun _ _ _ h => h) (Or.inl ⟨by rfl, fun w' h => by go_simp⟩) (by assumption) ?_
  try simp only [Act.put, List.getElem_toArray, List.getElem_cons_zero, List.getElem_cons_succ, List.setIfInBounds_toArray, List.set_cons_zero, List.set_cons_succ]
  refine wpAnyH_take (i := 7) (v := .int .i64 cd) rfl (by kernel_rfl) (by kernel_rfl) (by kernel_rfl) (fun _ _ _ h => h) (Or.inl ⟨by rfl, fun w' h => by go_simp⟩) (by assumption) ?_
  try simp only [Act.put, List.getElem_toArray, List.getElem_cons_zero, List.getElem_cons_succ, List.setIfInBounds_toArray, List.set_cons_zero, List.set_cons_succ]
  refine wpAnyH_ready (rs := [8]) (by kernel_rfl) (by simp) ?_
  refine AllReadyH.cons rfl (fun K hK => ?_) AllReadyH.nil
  refine if_wanted rfl ?_
  refine wp_assign0 (v := .bool bo) rfl rfl ?_
  refine hK.out _ _ hHeld (fun hHeld => ?_)
  clear hK K
  try simp only [Act.put, List.getElem_toArray, List.getElem_cons_zero, List.getElem_cons_succ, List.setIfInBounds_toArray, List.set_cons_zero, List.set_cons_succ]
  refine wpAnyH_ready (rs := [9]) (by kernel_rfl) (by simp) ?_
  refine AllReadyH.cons rfl (fun K hK => ?_) AllReadyH.nil
  refine if_wanted rfl ?_
  refine wp_assign0 (v := .int .i64 cd) rfl rfl ?_
  refine hK.out _ _ hHeld (fun hHeld => ?_)
  clear hK K
  try simp only [Act.put, List.getElem_toArray, List.getElem_cons_zero, List.getElem_cons_succ, List.setIfInBounds_toArray, List.set_cons_zero, List.set_cons_succ]
  refine wpAnyH_done (by kernel_rfl) ?_ _
  try simp only [Act.put, List.getElem_toArray, List.getElem_cons_zero, List.getElem_cons_succ, List.setIfInBounds_toArray, List.set_cons_zero, List.set_cons_succ]
  have hb := hHeld
  clear hHeld
  clear hbase
  have HB1 : Hid (Below w.heap.size w w1) := HB0.out.trans (hb.mono HB0.out.size)
  have HL1 : Hid (CBlk w1 w.heap.size 25 cs) := HL0.out.below hb HL0.out.lt
  have HM1 : Hid (CBlk w1 (w.heap.size + 1) 25 bs) := HM0.out.below hb HM0.out.lt
  clear hb
  clear HB0
  clear HL0
  clear HM0
  go_wp2_with fail
  refine wp_region_held_drew (S := fun w' => Below w1.heap.size w1 w') (by kernel_rfl) (Below.refl _ _).drew (fun hHeld => ?_)
  refine' wpAnyH_take (i := 0) (v := _) rfl (by kernel_rfl) (by kernel_rfl) (by kernel_rfl) (fun _ _ _ h => h) (yieldsIf_load_mid (by rfl) 25 (.tmp 2) rfl w.heap.size 0 rfl (ccells cs) _ (fun w h => CBlk.range (HL1.out.below h HL1.out.lt)) Tryd.underlying25 rfl (size_of_crate Tryd.sizeLc _ HW.out.1)) (by assumption) ?_
  try simp only [Act.put, List.getElem_toArray, List.getElem_cons_zero, List.getElem_cons_succ, List.setIfInBounds_toArray, List.set_cons_zero, List.set_cons_succ]
  refine' wpAnyH_take (i := 2) (v := _) rfl (by kernel_rfl) (by kernel_rfl) (by kernel_rfl) (fun _ _ _ h => h) (yieldsIf_load_mid (by rfl) 25 (.tmp 3) rfl (w.heap.size + 1) 0 rfl (ccells bs) _ (fun w h => CBlk.range (HM1.out.below h HM1.out.lt)) Tryd.underlying25 rfl (size_of_crate Tryd.sizeLc _ HW2.out.1)) (by assumption) ?_
  try simp only [Act.put, List.getElem_toArray, List.getElem_cons_zero, List.getElem_cons_succ, List.setIfInBounds_toArray, List.set_cons_zero, List.set_cons_succ]
  obtain ⟨D0, hD0⟩ : ∃ D0, w1.drew = D0 := ⟨_, rfl⟩
  rw [hD0] at hHeld ⊢
  clear hD0
  refine wpAnyH_ready (rs := [1]) (by kernel_rfl) (by simp) ?_
  refine AllReadyH.cons rfl (fun K hK => ?_) AllReadyH.nil
  refine if_wanted rfl ?_
  go_simp
  refine (toCrate_any cs HW.out.1 _).mono ?_
  rintro e z1 ⟨rfl, hb⟩
  have hH2 : Below w1.heap.size w1 z1 := hHeld.trans (hb.mono hHeld.size)
  clear hb hHeld
  dsimp only
  refine hK.out _ _ hH2 (fun hHeld => ?_)
  clear hK K hH2
  try simp only [Act.put, List.getElem_toArray, List.getElem_cons_zero, List.getElem_cons_succ, List.setIfInBounds_toArray, List.set_cons_zero, List.set_cons_succ]
  refine wpAnyH_ready (rs := [3]) (by kernel_rfl) (by simp) ?_
  refine AllReadyH.cons rfl (fun K hK => ?_) AllReadyH.nil
  refine if_wanted rfl ?_
  go_simp
  refine (toCrate_any bs HW2.out.1 _).mono ?_
  rintro e z2 ⟨rfl, hb⟩
  have hH2 : Below w1.heap.size w1 z2 := hHeld.trans (hb.mono hHeld.size)
  clear hb hHeld
  dsimp only
  refine hK.out _ _ hH2 (fun hHeld => ?_)
  clear hK K hH2
  try simp only [Act.put, List.getElem_toArray, List.getElem_cons_zero, List.getElem_cons_succ, List.setIfInBounds_toArray, List.set_cons_zero, List.set_cons_succ]
  refine wpAnyH_ready (rs := [4]) (by kernel_rfl) (by simp) ?_
  refine AllReadyH.cons rfl (fun K hK => ?_) AllReadyH.nil
  refine if_wanted rfl ?_
  go_simp
  refine (HI.out _ (HE.out.below (HB1.out.trans (hHeld.mono HB1.out.size)) (Nat.le_refl _))).mono ?_
  rintro e w2 ⟨rfl, hb⟩
  have hH2 : Below w1.heap.size w1 w2 := hHeld.trans (hb.mono hHeld.size)
  have hbase := hHeld.size
  clear hb hHeld
  dsimp only
  refine hK.out _ _ hH2 (fun hHeld => ?_)
  clear hK K hH2
  try simp only [Act.put, List.getElem_toArray, List.getElem_cons_zero, List.getElem_cons_succ, List.setIfInBounds_toArray, List.set_cons_zero, List.set_cons_succ]
  refine wpAnyH_take (i := 5) (v := .tuple #[.bool bo, .int .i64 cd]) rfl (by kernel_rfl) (by kernel_rfl) (by kernel_rfl) (fun _ _ _ h => h) (Or.inl ⟨by rfl, fun w' h => by go_simp⟩) (by assumption) ?_
  try simp only [Act.put, List.getElem_toArray, List.getElem_cons_zero, List.getElem_cons_succ, List.setIfInBounds_toArray, List.set_cons_zero, List.set_cons_succ]
  refine wpAnyH_take (i := 6) (v := .bool bo) rfl (by kernel_rfl) (by kernel_rfl) (by kernel_rfl) (fun _ _ _ h => h) (Or.inl ⟨by rfl, fun w' h => by go_simp⟩) (by assumption) ?_
  try simp only [Act.put, List.getElem_toArray, List.getElem_cons_zero, List.getElem_cons_succ, List.setIfInBounds_toArray, List.set_cons_zero, List.set_cons_succ]
  refine wpAnyH_take (i := 7) (v := .int .i64 cd) rfl (by kernel_rfl) (by kernel_rfl) (by kernel_rfl) (fun _ _ _ h => h) (Or.inl ⟨by rfl, fun w' h => by go_simp⟩) (by assumption) ?_
  try simp only [Act.put, List.getElem_toArray, List.getElem_cons_zero, List.getElem_cons_succ, List.setIfInBounds_toArray, List.set_cons_zero, List.set_cons_succ]
  refine wpAnyH_ready (rs := [8]) (by kernel_rfl) (by simp) ?_
  refine AllReadyH.cons rfl (fun K hK => ?_) AllReadyH.nil
  refine if_wanted rfl ?_
  refine wp_assign0 (v := .bool bo) rfl rfl ?_
  refine hK.out _ _ hHeld (fun hHeld => ?_)
  clear hK K
  try simp only [Act.put, List.getElem_toArray, List.getElem_cons_zero, List.getElem_cons_succ, List.setIfInBounds_toArray, List.set_cons_zero, List.set_cons_succ]
  refine wpAnyH_ready (rs := [9]) (by kernel_rfl) (by simp) ?_
  refine AllReadyH.cons rfl (fun K hK => ?_) AllReadyH.nil
  refine if_wanted rfl ?_
  refine wp_assign0 (v := .int .i64 cd) rfl rfl ?_
  refine hK.out _ _ hHeld (fun hHeld => ?_)
  clear hK K
  try simp only [Act.put, List.getElem_toArray, List.getElem_cons_zero, List.getElem_cons_succ, List.setIfInBounds_toArray, List.set_cons_zero, List.set_cons_succ]
  refine wpAnyH_done (by kernel_rfl) ?_ _
  try simp only [Act.put, List.getElem_toArray, List.getElem_cons_zero, List.getElem_cons_succ, List.setIfInBounds_toArray, List.set_cons_zero, List.set_cons_succ]
  have hb := hHeld
  clear hHeld
  clear hbase
  have HB2 : Hid (Below w.heap.size w w2) := HB1.out.trans (hb.mono HB1.out.size)
  have HL2 : Hid (CBlk w2 w.heap.size 25 cs) := HL1.out.below hb HL1.out.lt
  have HM2 : Hid (CBlk w2 (w.heap.size + 1) 25 bs) := HM1.out.below hb HM1.out.lt
  clear hb
  clear HB1
  clear HL1
  clear HM1
  cases bo
  all_goals
    go_wp2
    go_ret
    exact ⟨rfl, HB2.out⟩
end Go.Proofs.YtbdjmacjmkcafaaDoor
