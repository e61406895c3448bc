/-
  FnExactCheckSwaps: for all crates and every list of swaps the law returns true, and its arguments read as before. No condition but that the sentinel errors hold what the program's text lays (tied).
-/
import Derived.Test.YtidfddemcjjgdaaDoorCards
import Derived.Test.YtidfddemcjjgdaaDoorTie
import Derived.Test.YtidfddemcjjgdaaDoorG
import Derived.Test.YtidfddemcjjgdaaDoorCk
import Derived.SevenTiedAt
namespace Go.Proofs.YtidfddemcjjgdaaDoor
open Go.ChangeShapes Go.WideShapes Go.ChangeAt Go.RowKit Go.Deep

set_option maxRecDepth 100000 in
set_option maxHeartbeats 4000000 in
theorem ckLaw_any (cs bs : List Bot) (hwa : WfC cs) (hwb : WfC bs) (xs : List Swp) (hxs : ∀ x ∈ xs, wfS x) (A : Option Addr) (c : Nat) (ad : Nat → Addr) (w : World) (hl : xs.length ≤ 9223372036854775807) (hr : Rd w w.heap.size scells A xs) (hE : EW 7 w ad) :
    Calls Tryd.prog 6 #[.agg (ccells cs).toArray, .agg (ccells bs).toArray, .slice A xs.length c] w (Good w) := by
  have HW := Lib.hid hwa
  have HW2 := Lib.hid hwb
  have HX := Lib.hid hxs
  have HR := Lib.hid hr
  have HE := Lib.hid hE
  clear hwa hwb hE hxs hr
  have h1 : CBlk ((w.alloc (.cells (ccells cs).toArray 25)).alloc (.cells (ccells bs).toArray 25)) w.heap.size 25 cs := (CBlk.new w 25 cs).alloc _
  have h2 : CBlk ((w.alloc (.cells (ccells cs).toArray 25)).alloc (.cells (ccells bs).toArray 25)) (w.heap.size + 1) 25 bs := CBlk.new' (by simp) rfl
  have h3 : Below w.heap.size w ((w.alloc (.cells (ccells cs).toArray 25)).alloc (.cells (ccells bs).toArray 25)) := (by repeat (first | exact Below.refl _ _ | refine Below.drew ?_ | refine Below.alloc ?_ (by simp <;> omega) _ | refine Below.setCell ?_ (by simp <;> omega) _))
  obtain ⟨W0, hW0⟩ : ∃ W0, (w.alloc (.cells (ccells cs).toArray 25)).alloc (.cells (ccells bs).toArray 25) = W0 := ⟨_, rfl⟩
  rw [hW0] at h1 h2 h3
  have HL0 := Lib.hid h1
  have HM0 := Lib.hid h2
  have HB0 := Lib.hid h3
  clear h1 h2 h3
  go_enter Tryd.func6, Tryd.ntmps6
  go_wp2_with fail
  clear hW0
  refine (szSwapS_any A xs.length c 1048576 hl ⟨by omega, by omega⟩ _).mono ?_
  rintro e w' ⟨rfl, rfl⟩
  by_cases hn : (1048576 : Int) < xs.length
  · rw [if_pos hn]
    go_wp2
    go_ret
    exact ⟨rfl, HB0.out⟩
  rw [if_neg hn]
  have hn0 : (0 : Int) ≤ 1048576 - xs.length := by omega
  have hl2 : xs.length ≤ 1048576 := by omega
  go_wp2_with fail
  obtain ⟨bb, hbb⟩ : ∃ b, ckB cs bs xs = b := ⟨_, rfl⟩
  obtain ⟨cd, hcd⟩ : ∃ c, ckC cs bs xs = c := ⟨_, rfl⟩
  have HS : Hid (∀ A c w, Rd w w.heap.size scells A xs → Calls Tryd.prog 30 #[.agg (ccells cs).toArray, .agg (ccells bs).toArray, .slice A xs.length c] w fun e w' => e = .returned (.tuple #[.bool bb, .int .i64 cd]) ∧ Below w.heap.size w w') := by
    have := fun A c w hr => specCheck_any cs bs HW.out HW2.out xs HX.out A c w hl2 hr
    unfold ckV at this
    rw [hbb, hcd] at this; exact this
  have HI : Hid (∀ A c w, Rd w w.heap.size scells A xs → EW 7 w ad → Calls Tryd.prog 31 #[.agg (ccells cs).toArray, .agg (ccells bs).toArray, .slice A xs.length c] w fun e w' => e = .returned (.tuple #[.bool bb, .int .i64 cd]) ∧ Below w.heap.size w w') := by
    have := fun A c w hr hE => implCheck_any cs bs HW.out HW2.out xs HX.out A c ad w hl2 hr hE
    unfold ckV at this
    rw [hbb, hcd] at this; exact this
  clear hbb hcd
  refine wp_region_held_drew (S := fun w' => Below W0.heap.size W0 w') (by kernel_rfl) (Below.refl _ _).drew (fun hHeld => ?_)
  refine' wpAnyH_take (i := 0) (v := _) rfl (by kernel_rfl) (by kernel_rfl) (by kernel_rfl) (fun _ _ _ h => h) (yieldsIf_load_mid (by rfl) 25 (.tmp 3) rfl w.heap.size 0 rfl (ccells cs) _ (fun w h => CBlk.range (HL0.out.below h HL0.out.lt)) Tryd.underlying25 rfl (size_of_crate Tryd.sizeLc _ HW.out.1)) (by assumption) ?_
  try simp only [Act.put, List.getElem_toArray, List.getElem_cons_zero, List.getElem_cons_succ, List.setIfInBounds_toArray, List.set_cons_zero, List.set_cons_succ]
  refine' wpAnyH_take (i := 2) (v := _) rfl (by kernel_rfl) (by kernel_rfl) (by kernel_rfl) (fun _ _ _ h => h) (yieldsIf_load_mid (by rfl) 25 (.tmp 4) rfl (w.heap.size + 1) 0 rfl (ccells bs) _ (fun w h => CBlk.range (HM0.out.below h HM0.out.lt)) Tryd.underlying25 rfl (size_of_crate Tryd.sizeLc _ HW2.out.1)) (by assumption) ?_
  try simp only [Act.put, List.getElem_toArray, List.getElem_cons_zero, List.getElem_cons_succ, List.setIfInBounds_toArray, List.set_cons_zero, List.set_cons_succ]
  refine wpAnyH_take (i := 4) (v := .slice A xs.length c) rfl (by kernel_rfl) (by kernel_rfl) (by kernel_rfl) (fun _ _ _ h => h) (Or.inl ⟨by rfl, fun w' h => by go_simp⟩) (by assumption) ?_
  try simp only [Act.put, List.getElem_toArray, List.getElem_cons_zero, List.getElem_cons_succ, List.setIfInBounds_toArray, List.set_cons_zero, List.set_cons_succ]
  obtain ⟨D0, hD0⟩ : ∃ D0, W0.drew = D0 := ⟨_, rfl⟩
  rw [hD0] at hHeld ⊢
  clear hD0
  refine wpAnyH_ready (rs := [1]) (by kernel_rfl) (by simp) ?_
  refine AllReadyH.cons rfl (fun K hK => ?_) AllReadyH.nil
  refine if_wanted rfl ?_
  go_simp
  refine (toCrate_any cs HW.out.1 _).mono ?_
  rintro e y1 ⟨rfl, hb⟩
  have hH2 : Below W0.heap.size W0 y1 := hHeld.trans (hb.mono hHeld.size)
  clear hb hHeld
  dsimp only
  refine hK.out _ _ hH2 (fun hHeld => ?_)
  clear hK K hH2
  try simp only [Act.put, List.getElem_toArray, List.getElem_cons_zero, List.getElem_cons_succ, List.setIfInBounds_toArray, List.set_cons_zero, List.set_cons_succ]
  refine wpAnyH_ready (rs := [3]) (by kernel_rfl) (by simp) ?_
  refine AllReadyH.cons rfl (fun K hK => ?_) AllReadyH.nil
  refine if_wanted rfl ?_
  go_simp
  refine (toCrate_any bs HW2.out.1 _).mono ?_
  rintro e y2 ⟨rfl, hb⟩
  have hH2 : Below W0.heap.size W0 y2 := hHeld.trans (hb.mono hHeld.size)
  clear hb hHeld
  dsimp only
  refine hK.out _ _ hH2 (fun hHeld => ?_)
  clear hK K hH2
  try simp only [Act.put, List.getElem_toArray, List.getElem_cons_zero, List.getElem_cons_succ, List.setIfInBounds_toArray, List.set_cons_zero, List.set_cons_succ]
  refine wpAnyH_ready (rs := [5]) (by kernel_rfl) (by simp) ?_
  refine AllReadyH.cons rfl (fun K hK => ?_) AllReadyH.nil
  refine if_wanted rfl ?_
  go_simp
  refine (toSwapS_any xs A c _ hl2 (HR.out.keep (HB0.out.trans (hHeld.mono HB0.out.size)))).mono ?_
  rintro e y3 ⟨rfl, hR, hb⟩
  have hH2 : Below W0.heap.size W0 y3 := hHeld.trans (hb.mono hHeld.size)
  clear hb hHeld
  dsimp only
  refine hK.out _ _ hH2 (fun hHeld => ?_)
  clear hK K hH2
  try simp only [Act.put, List.getElem_toArray, List.getElem_cons_zero, List.getElem_cons_succ, List.setIfInBounds_toArray, List.set_cons_zero, List.set_cons_succ]
  refine wpAnyH_ready (rs := [6]) (by kernel_rfl) (by simp) ?_
  refine AllReadyH.cons rfl (fun K hK => ?_) AllReadyH.nil
  refine if_wanted rfl ?_
  go_simp
  refine (HS.out _ _ _ (hR.rd hR.lt)).mono ?_
  rintro e w1 ⟨rfl, hb⟩
  have hH2 : Below W0.heap.size W0 w1 := hHeld.trans (hb.mono hHeld.size)
  have hbase := hHeld.size
  clear hR
  clear hb hHeld
  dsimp only
  refine hK.out _ _ hH2 (fun hHeld => ?_)
  clear hK K hH2
  try simp only [Act.put, List.getElem_toArray, List.getElem_cons_zero, List.getElem_cons_succ, List.setIfInBounds_toArray, List.set_cons_zero, List.set_cons_succ]
  refine wpAnyH_take (i := 7) (v := .tuple #[.bool bb, .int .i64 cd]) rfl (by kernel_rfl) (by kernel_rfl) (by kernel_rfl) (fun _ _ _ h => h) (Or.inl ⟨by rfl, fun w' h => by go_simp⟩) (by assumption) ?_
  try simp only [Act.put, List.getElem_toArray, List.getElem_cons_zero, List.getElem_cons_succ, List.setIfInBounds_toArray, List.set_cons_zero, List.set_cons_succ]
  refine wpAnyH_take (i := 8) (v := .bool bb) rfl (by kernel_rfl) (by kernel_rfl) (by kernel_rfl) (fun _ _ _ h => h) (Or.inl ⟨by rfl, fun w' h => by go_simp⟩) (by assumption) ?_
  try simp only [Act.put, List.getElem_toArray, List.getElem_cons_zero, List.getElem_cons_succ, List.setIfInBounds_toArray, List.set_cons_zero, List.set_cons_succ]
  refine wpAnyH_take (i := 9) (v := .int .i64 cd) rfl (by kernel_rfl) (by kernel_rfl) (by kernel_rfl) (fun _ _ _ h => h) (Or.inl ⟨by rfl, fun w' h => by go_simp⟩) (by assumption) ?_
  try simp only [Act.put, List.getElem_toArray, List.getElem_cons_zero, List.getElem_cons_succ, List.setIfInBounds_toArray, List.set_cons_zero, List.set_cons_succ]
  refine wpAnyH_ready (rs := [10]) (by kernel_rfl) (by simp) ?_
  refine AllReadyH.cons rfl (fun K hK => ?_) AllReadyH.nil
  refine if_wanted rfl ?_
  refine wp_assign0 (v := .bool bb) rfl rfl ?_
  refine hK.out _ _ hHeld (fun hHeld => ?_)
  clear hK K
  try simp only [Act.put, List.getElem_toArray, List.getElem_cons_zero, List.getElem_cons_succ, List.setIfInBounds_toArray, List.set_cons_zero, List.set_cons_succ]
  refine wpAnyH_ready (rs := [11]) (by kernel_rfl) (by simp) ?_
  refine AllReadyH.cons rfl (fun K hK => ?_) AllReadyH.nil
  refine if_wanted rfl ?_
  refine wp_assign0 (v := .int .i64 cd) rfl rfl ?_
  refine hK.out _ _ hHeld (fun hHeld => ?_)
  clear hK K
  try simp only [Act.put, List.getElem_toArray, List.getElem_cons_zero, List.getElem_cons_succ, List.setIfInBounds_toArray, List.set_cons_zero, List.set_cons_succ]
  refine wpAnyH_done (by kernel_rfl) ?_ _
  try simp only [Act.put, List.getElem_toArray, List.getElem_cons_zero, List.getElem_cons_succ, List.setIfInBounds_toArray, List.set_cons_zero, List.set_cons_succ]
  have hb := hHeld
  clear hHeld
  clear hbase
  have HB1 : Hid (Below w.heap.size w w1) := HB0.out.trans (hb.mono HB0.out.size)
  have HL1 : Hid (CBlk w1 w.heap.size 25 cs) := HL0.out.below hb HL0.out.lt
  have HM1 : Hid (CBlk w1 (w.heap.size + 1) 25 bs) := HM0.out.below hb HM0.out.lt
  clear hb
  clear HB0
  clear HL0
  clear HM0
  go_wp2_with fail
  refine (toSwapS_any xs A c _ hl2 (HR.out.keep HB1.out)).mono ?_
  rintro e w2 ⟨rfl, hR, hb⟩
  have HB2 : Hid (Below w.heap.size w w2) := HB1.out.trans (hb.mono HB1.out.size)
  have HL2 : Hid (CBlk w2 w.heap.size 25 cs) := HL1.out.below hb HL1.out.lt
  have HM2 : Hid (CBlk w2 (w.heap.size + 1) 25 bs) := HM1.out.below hb HM1.out.lt
  clear hb
  clear HB1
  clear HL1
  clear HM1
  have HS2 := Lib.hid hR
  clear hR
  go_wp2_with fail
  refine wp_region_held_drew (S := fun w' => Below w2.heap.size w2 w') (by kernel_rfl) (Below.refl _ _).drew (fun hHeld => ?_)
  refine' wpAnyH_take (i := 0) (v := _) rfl (by kernel_rfl) (by kernel_rfl) (by kernel_rfl) (fun _ _ _ h => h) (yieldsIf_load_mid (by rfl) 25 (.tmp 3) rfl w.heap.size 0 rfl (ccells cs) _ (fun w h => CBlk.range (HL2.out.below h HL2.out.lt)) Tryd.underlying25 rfl (size_of_crate Tryd.sizeLc _ HW.out.1)) (by assumption) ?_
  try simp only [Act.put, List.getElem_toArray, List.getElem_cons_zero, List.getElem_cons_succ, List.setIfInBounds_toArray, List.set_cons_zero, List.set_cons_succ]
  refine' wpAnyH_take (i := 2) (v := _) rfl (by kernel_rfl) (by kernel_rfl) (by kernel_rfl) (fun _ _ _ h => h) (yieldsIf_load_mid (by rfl) 25 (.tmp 4) rfl (w.heap.size + 1) 0 rfl (ccells bs) _ (fun w h => CBlk.range (HM2.out.below h HM2.out.lt)) Tryd.underlying25 rfl (size_of_crate Tryd.sizeLc _ HW2.out.1)) (by assumption) ?_
  try simp only [Act.put, List.getElem_toArray, List.getElem_cons_zero, List.getElem_cons_succ, List.setIfInBounds_toArray, List.set_cons_zero, List.set_cons_succ]
  refine wpAnyH_take (i := 4) (v := .slice (some ⟨w1.heap.size, 0, none⟩) xs.length xs.length) rfl (by kernel_rfl) (by kernel_rfl) (by kernel_rfl) (fun _ _ _ h => h) (Or.inl ⟨by rfl, fun w' h => by go_simp⟩) (by assumption) ?_
  try simp only [Act.put, List.getElem_toArray, List.getElem_cons_zero, List.getElem_cons_succ, List.setIfInBounds_toArray, List.set_cons_zero, List.set_cons_succ]
  obtain ⟨D0, hD0⟩ : ∃ D0, w2.drew = D0 := ⟨_, rfl⟩
  rw [hD0] at hHeld ⊢
  clear hD0
  refine wpAnyH_ready (rs := [1]) (by kernel_rfl) (by simp) ?_
  refine AllReadyH.cons rfl (fun K hK => ?_) AllReadyH.nil
  refine if_wanted rfl ?_
  go_simp
  refine (toCrate_any cs HW.out.1 _).mono ?_
  rintro e z1 ⟨rfl, hb⟩
  have hH2 : Below w2.heap.size w2 z1 := hHeld.trans (hb.mono hHeld.size)
  clear hb hHeld
  dsimp only
  refine hK.out _ _ hH2 (fun hHeld => ?_)
  clear hK K hH2
  try simp only [Act.put, List.getElem_toArray, List.getElem_cons_zero, List.getElem_cons_succ, List.setIfInBounds_toArray, List.set_cons_zero, List.set_cons_succ]
  refine wpAnyH_ready (rs := [3]) (by kernel_rfl) (by simp) ?_
  refine AllReadyH.cons rfl (fun K hK => ?_) AllReadyH.nil
  refine if_wanted rfl ?_
  go_simp
  refine (toCrate_any bs HW2.out.1 _).mono ?_
  rintro e z2 ⟨rfl, hb⟩
  have hH2 : Below w2.heap.size w2 z2 := hHeld.trans (hb.mono hHeld.size)
  clear hb hHeld
  dsimp only
  refine hK.out _ _ hH2 (fun hHeld => ?_)
  clear hK K hH2
  try simp only [Act.put, List.getElem_toArray, List.getElem_cons_zero, List.getElem_cons_succ, List.setIfInBounds_toArray, List.set_cons_zero, List.set_cons_succ]
  refine wpAnyH_ready (rs := [5]) (by kernel_rfl) (by simp) ?_
  refine AllReadyH.cons rfl (fun K hK => ?_) AllReadyH.nil
  refine if_wanted rfl ?_
  go_simp
  refine (HI.out _ _ _ ((Rs.rd (Blk.below HS2.out hHeld HS2.out.lt) (Nat.lt_of_lt_of_le HS2.out.lt hHeld.size))) (HE.out.below (HB2.out.trans (hHeld.mono HB2.out.size)) (Nat.le_refl _))).mono ?_
  rintro e w3 ⟨rfl, hb⟩
  have hH2 : Below w2.heap.size w2 w3 := hHeld.trans (hb.mono hHeld.size)
  have hbase := hHeld.size
  clear hb hHeld
  dsimp only
  refine hK.out _ _ hH2 (fun hHeld => ?_)
  clear hK K hH2
  try simp only [Act.put, List.getElem_toArray, List.getElem_cons_zero, List.getElem_cons_succ, List.setIfInBounds_toArray, List.set_cons_zero, List.set_cons_succ]
  refine wpAnyH_take (i := 6) (v := .tuple #[.bool bb, .int .i64 cd]) rfl (by kernel_rfl) (by kernel_rfl) (by kernel_rfl) (fun _ _ _ h => h) (Or.inl ⟨by rfl, fun w' h => by go_simp⟩) (by assumption) ?_
  try simp only [Act.put, List.getElem_toArray, List.getElem_cons_zero, List.getElem_cons_succ, List.setIfInBounds_toArray, List.set_cons_zero, List.set_cons_succ]
  refine wpAnyH_take (i := 7) (v := .bool bb) rfl (by kernel_rfl) (by kernel_rfl) (by kernel_rfl) (fun _ _ _ h => h) (Or.inl ⟨by rfl, fun w' h => by go_simp⟩) (by assumption) ?_
  try simp only [Act.put, List.getElem_toArray, List.getElem_cons_zero, List.getElem_cons_succ, List.setIfInBounds_toArray, List.set_cons_zero, List.set_cons_succ]
  refine wpAnyH_take (i := 8) (v := .int .i64 cd) rfl (by kernel_rfl) (by kernel_rfl) (by kernel_rfl) (fun _ _ _ h => h) (Or.inl ⟨by rfl, fun w' h => by go_simp⟩) (by assumption) ?_
  try simp only [Act.put, List.getElem_toArray, List.getElem_cons_zero, List.getElem_cons_succ, List.setIfInBounds_toArray, List.set_cons_zero, List.set_cons_succ]
  refine wpAnyH_ready (rs := [9]) (by kernel_rfl) (by simp) ?_
  refine AllReadyH.cons rfl (fun K hK => ?_) AllReadyH.nil
  refine if_wanted rfl ?_
  refine wp_assign0 (v := .bool bb) rfl rfl ?_
  refine hK.out _ _ hHeld (fun hHeld => ?_)
  clear hK K
  try simp only [Act.put, List.getElem_toArray, List.getElem_cons_zero, List.getElem_cons_succ, List.setIfInBounds_toArray, List.set_cons_zero, List.set_cons_succ]
  refine wpAnyH_ready (rs := [10]) (by kernel_rfl) (by simp) ?_
  refine AllReadyH.cons rfl (fun K hK => ?_) AllReadyH.nil
  refine if_wanted rfl ?_
  refine wp_assign0 (v := .int .i64 cd) rfl rfl ?_
  refine hK.out _ _ hHeld (fun hHeld => ?_)
  clear hK K
  try simp only [Act.put, List.getElem_toArray, List.getElem_cons_zero, List.getElem_cons_succ, List.setIfInBounds_toArray, List.set_cons_zero, List.set_cons_succ]
  refine wpAnyH_done (by kernel_rfl) ?_ _
  try simp only [Act.put, List.getElem_toArray, List.getElem_cons_zero, List.getElem_cons_succ, List.setIfInBounds_toArray, List.set_cons_zero, List.set_cons_succ]
  have hb := hHeld
  clear hHeld
  clear hbase
  have HB3 : Hid (Below w.heap.size w w3) := HB2.out.trans (hb.mono HB2.out.size)
  have HL3 : Hid (CBlk w3 w.heap.size 25 cs) := HL2.out.below hb HL2.out.lt
  have HM3 : Hid (CBlk w3 (w.heap.size + 1) 25 bs) := HM2.out.below hb HM2.out.lt
  have HS3 : Hid (Rs w3 w1.heap.size 35 scells xs) := Blk.keep HS2.out hb
  clear hb
  clear HB2
  clear HL2
  clear HM2
  clear HS2
  cases bb
  all_goals
    go_wp2_with fail
    refine (toSwapS_any xs A c _ hl2 (HR.out.keep HB3.out)).mono ?_
    rintro e w4 ⟨rfl, hR, hb⟩
    have HB4 : Hid (Below w.heap.size w w4) := HB3.out.trans (hb.mono HB3.out.size)
    have HL4 : Hid (CBlk w4 w.heap.size 25 cs) := HL3.out.below hb HL3.out.lt
    have HM4 : Hid (CBlk w4 (w.heap.size + 1) 25 bs) := HM3.out.below hb HM3.out.lt
    have HS4 : Hid (Rs w4 w1.heap.size 35 scells xs) := Blk.keep HS3.out hb
    clear hb
    clear HB3
    clear HL3
    clear HM3
    clear HS3
    have HT4 := Lib.hid hR
    clear hR
    go_wp2_with fail
    refine (eqSwapS_same xs _ _ _ _ _ (by omega) (HS4.out.rd HS4.out.lt) (HT4.out.rd HT4.out.lt)).mono ?_
    rintro e w5 ⟨rfl, hb⟩
    have HB5 : Hid (Below w.heap.size w w5) := HB4.out.trans (hb.mono HB4.out.size)
    have HL5 : Hid (CBlk w5 w.heap.size 25 cs) := HL4.out.below hb HL4.out.lt
    have HM5 : Hid (CBlk w5 (w.heap.size + 1) 25 bs) := HM4.out.below hb HM4.out.lt
    have HS5 : Hid (Rs w5 w1.heap.size 35 scells xs) := Blk.keep HS4.out hb
    have HT5 : Hid (Rs w5 w3.heap.size 35 scells xs) := Blk.keep HT4.out hb
    clear hb
    clear HB4
    clear HL4
    clear HM4
    clear HS4
    clear HT4
    go_wp2
    go_ret
    exact ⟨rfl, HB5.out⟩
end Go.Proofs.YtidfddemcjjgdaaDoor
