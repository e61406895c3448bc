/-
  FnExactOldestOf: for all arguments the law returns true, and they read as before. No condition but that the sentinel errors hold what the program's text lays (tied).
-/
import Derived.Test.YtdgcgkeclcpafaaDoorCards
import Derived.Test.YtdgcgkeclcpafaaDoorTie
import Derived.Test.YtdgcgkeclcpafaaDoorG
import Derived.Test.YtdgcgkeclcpafaaDoorMkRk
import Derived.Test.YtdgcgkeclcpafaaDoorKc8
import Derived.SevenTiedAt
namespace Go.Proofs.YtdgcgkeclcpafaaDoor
open Go.ChangeShapes Go.WideShapes Go.ChangeAt Go.RowKit Go.Deep

set_option maxRecDepth 100000 in
set_option maxHeartbeats 4000000 in
theorem olLaw_any (xss : List (List Wnt)) (A : Option Addr) (c : Nat) (k y : Int) (hkw : wfB (k, y)) (ad : Nat → Addr) (w : World) (hl0 : xss.length ≤ 9223372036854775807) (hr0 : RdN w w.heap.size wcells A xss) (hx0 : ∀ xs ∈ xss, xs.length ≤ 9223372036854775807) (hw0 : ∀ xs ∈ xss, ∀ x ∈ xs, wfW x) (hE : EW 7 w ad) :
    Calls Tryd.prog 3 #[.slice A xss.length c, .agg #[.int .u8 k, .int .i16 y]] w (Good w) := by
  have HR0 := Lib.hid hr0
  have HW0 := Lib.hid hw0
  have HKw := Lib.hid hkw
  have HE := Lib.hid hE
  clear hE hr0 hw0 hkw
  have h1 : Blk (w.alloc (.cells #[.int .u8 k, .int .i16 y] 25)) w.heap.size 25 #[.int .u8 k, .int .i16 y] := Blk.new w _ _
  have h2 : Below w.heap.size w (w.alloc (.cells #[.int .u8 k, .int .i16 y] 25)) := (Below.refl _ w).alloc (Nat.le_refl _) _
  obtain ⟨W0, hW0⟩ : ∃ W0, w.alloc (.cells #[.int .u8 k, .int .i16 y] 25) = W0 := ⟨_, rfl⟩
  rw [hW0] at h1 h2
  have KX_0 := Lib.hid h1
  have HB_0 := Lib.hid h2
  clear h1 h2
  go_enter Tryd.func3, Tryd.ntmps3
  go_wp2_with fail
  clear hW0
  refine (szRack_any xss A c (1048576) hl0 hx0 ⟨by omega, by omega⟩ _ (HR0.out.keep HB_0.out)).mono ?_
  rintro e w' ⟨rfl, rfl⟩
  by_cases hn0 : (1048576 : Int) < (xss.length + sumL xss)
  · rw [if_pos hn0]
    go_wp2
    go_ret
    exact ⟨rfl, HB_0.out⟩
  rw [if_neg hn0]
  have hz0 : (0 : Int) ≤ 1048576 - (xss.length + sumL xss) := by omega
  have hm0 : xss.length ≤ 1048576 := by omega
  have hsm0 : sumL xss ≤ 1048576 := by omega
  have hxm0 : ∀ xs ∈ xss, xs.length ≤ 1048576 := fun xs hxs => by obtain ⟨j, hj, rfl⟩ := List.mem_iff_getElem.1 hxs; have := le_sumL (List.getElem?_eq_getElem hj); omega
  obtain ⟨lv, hlv⟩ : ∃ L : Int, ((olC (ooT k y xss)).2.1 : Nat) = L := ⟨_, rfl⟩
  obtain ⟨iv, hiv⟩ : ∃ L : Int, ((olC (ooT k y xss)).2.2 : Nat) = L := ⟨_, rfl⟩
  obtain ⟨cd, hcd⟩ : ∃ cd, ooC k y xss = cd := ⟨_, rfl⟩
  clear hx0 hl0
  have HS : Hid (∀ A c w, RdN w w.heap.size wcells A xss → Calls Tryd.prog 8 #[.slice A xss.length c, .agg #[.int .u8 k, .int .i16 y]] w fun e w' => e = .returned (.tuple #[.int .i64 lv, .int .i64 iv, .int .i64 cd]) ∧ Below w.heap.size w w') := by
    have := fun A c w hr => specOldest_any xss HW0.out k y HKw.out A c w hm0 hxm0 hr
    rw [hlv, hiv, hcd] at this; exact this
  have HI : Hid (∀ g c gs w, RsN w g 43 52 wcells xss gs → EW 7 w ad → Calls Tryd.prog 11 #[.slice (some ⟨g, 0, none⟩) xss.length c, .agg #[.int .u8 k, .int .i16 y]] w fun e w' => e = .returned (.tuple #[.int .i64 lv, .int .i64 iv, .int .i64 cd]) ∧ Below w.heap.size w w') := by
    have := fun (g c : Nat) (gs : List Nat) (w : World) (hr : RsN w g 43 52 wcells xss gs) hE => implOldest_any xss HW0.out k y (some ⟨g, 0, none⟩) c ad w hm0 hxm0 hr.rdK hE
    rw [hlv, hiv, hcd] at this; exact this
  clear hlv hiv hcd
  go_wp2_with fail
  refine wp_region_held_drew (S := fun w' => Below W0.heap.size W0 w') (by kernel_rfl) (Below.refl _ _).drew (fun hHeld => ?_)
  refine wpAnyH_take (i := 0) (v := .slice A xss.length c) rfl (by kernel_rfl) (by kernel_rfl) (by kernel_rfl) (fun _ _ _ h => h) (Or.inl ⟨by rfl, fun w' h => by go_simp⟩) (by assumption) ?_
  try simp only [Act.put, List.getElem_toArray, List.getElem_cons_zero, List.getElem_cons_succ, List.setIfInBounds_toArray, List.set_cons_zero, List.set_cons_succ]
  refine wpAnyH_take (i := 2) (v := .agg #[.int .u8 k, .int .i16 y]) rfl (by kernel_rfl) (by kernel_rfl) (by kernel_rfl) (fun _ _ _ h => h) (Or.inl ⟨by rfl, fun w' h => by have HM := (KX_0.out.below h KX_0.out.lt); have g0 : w'.cell? ⟨w.heap.size, 0, none⟩ = some (.int .u8 k) := HM.cell 0; have g1 : w'.cell? ⟨w.heap.size, 1, none⟩ = some (.int .i16 y) := HM.cell 1; go_simp⟩) (by assumption) ?_
  try simp only [Act.put, List.getElem_toArray, List.getElem_cons_zero, List.getElem_cons_succ, List.setIfInBounds_toArray, List.set_cons_zero, List.set_cons_succ]
  obtain ⟨D0, hD0⟩ : ∃ D0, W0.drew = D0 := ⟨_, rfl⟩
  rw [hD0] at hHeld ⊢
  clear hD0
  refine wpAnyH_ready (rs := [1]) (by kernel_rfl) (by simp) ?_
  refine AllReadyH.cons rfl (fun K hK => ?_) AllReadyH.nil
  refine if_wanted rfl ?_
  go_simp
  refine (toRack_any xss A c _ hm0 hxm0 (HR0.out.keep (HB_0.out.trans (hHeld.mono HB_0.out.size)))).mono ?_
  rintro e z1 ⟨rfl, ⟨gs0, hR⟩, hb⟩
  have hH2 : Below W0.heap.size W0 z1 := hHeld.trans (hb.mono hHeld.size)
  clear hb hHeld
  dsimp only
  refine hK.out _ _ hH2 (fun hHeld => ?_)
  clear hK K hH2
  try simp only [Act.put, List.getElem_toArray, List.getElem_cons_zero, List.getElem_cons_succ, List.setIfInBounds_toArray, List.set_cons_zero, List.set_cons_succ]
  refine wpAnyH_ready (rs := [3]) (by kernel_rfl) (by simp) ?_
  refine AllReadyH.cons rfl (fun K hK => ?_) AllReadyH.nil
  refine if_wanted rfl ?_
  go_simp
  refine (toBottle_any k y _).mono ?_
  rintro e z2 ⟨rfl, hb⟩
  have hH2 : Below W0.heap.size W0 z2 := hHeld.trans (hb.mono hHeld.size)
  have hR2 := hR.keep hb
  clear hR
  clear hb hHeld
  dsimp only
  refine hK.out _ _ hH2 (fun hHeld => ?_)
  clear hK K hH2
  try simp only [Act.put, List.getElem_toArray, List.getElem_cons_zero, List.getElem_cons_succ, List.setIfInBounds_toArray, List.set_cons_zero, List.set_cons_succ]
  refine wpAnyH_ready (rs := [4]) (by kernel_rfl) (by simp) ?_
  refine AllReadyH.cons rfl (fun K hK => ?_) AllReadyH.nil
  refine if_wanted rfl ?_
  go_simp
  refine (HS.out _ _ _ hR2.rd).mono ?_
  rintro e z3 ⟨rfl, hb⟩
  have hH2 : Below W0.heap.size W0 z3 := hHeld.trans (hb.mono hHeld.size)
  have hbase := hHeld.size
  clear hR2
  clear hb hHeld
  dsimp only
  refine hK.out _ _ hH2 (fun hHeld => ?_)
  clear hK K hH2
  try simp only [Act.put, List.getElem_toArray, List.getElem_cons_zero, List.getElem_cons_succ, List.setIfInBounds_toArray, List.set_cons_zero, List.set_cons_succ]
  refine wpAnyH_take (i := 5) (v := .tuple #[.int .i64 lv, .int .i64 iv, .int .i64 cd]) rfl (by kernel_rfl) (by kernel_rfl) (by kernel_rfl) (fun _ _ _ h => h) (Or.inl ⟨by rfl, fun w' h => by go_simp⟩) (by assumption) ?_
  try simp only [Act.put, List.getElem_toArray, List.getElem_cons_zero, List.getElem_cons_succ, List.setIfInBounds_toArray, List.set_cons_zero, List.set_cons_succ]
  refine wpAnyH_take (i := 6) (v := .int .i64 lv) rfl (by kernel_rfl) (by kernel_rfl) (by kernel_rfl) (fun _ _ _ h => h) (Or.inl ⟨by rfl, fun w' h => by go_simp⟩) (by assumption) ?_
  try simp only [Act.put, List.getElem_toArray, List.getElem_cons_zero, List.getElem_cons_succ, List.setIfInBounds_toArray, List.set_cons_zero, List.set_cons_succ]
  refine wpAnyH_take (i := 7) (v := .int .i64 iv) rfl (by kernel_rfl) (by kernel_rfl) (by kernel_rfl) (fun _ _ _ h => h) (Or.inl ⟨by rfl, fun w' h => by go_simp⟩) (by assumption) ?_
  try simp only [Act.put, List.getElem_toArray, List.getElem_cons_zero, List.getElem_cons_succ, List.setIfInBounds_toArray, List.set_cons_zero, List.set_cons_succ]
  refine wpAnyH_take (i := 8) (v := .int .i64 cd) rfl (by kernel_rfl) (by kernel_rfl) (by kernel_rfl) (fun _ _ _ h => h) (Or.inl ⟨by rfl, fun w' h => by go_simp⟩) (by assumption) ?_
  try simp only [Act.put, List.getElem_toArray, List.getElem_cons_zero, List.getElem_cons_succ, List.setIfInBounds_toArray, List.set_cons_zero, List.set_cons_succ]
  refine wpAnyH_ready (rs := [9]) (by kernel_rfl) (by simp) ?_
  refine AllReadyH.cons rfl (fun K hK => ?_) AllReadyH.nil
  refine if_wanted rfl ?_
  refine wp_assign0 (v := .int .i64 lv) rfl rfl ?_
  refine hK.out _ _ hHeld (fun hHeld => ?_)
  clear hK K
  try simp only [Act.put, List.getElem_toArray, List.getElem_cons_zero, List.getElem_cons_succ, List.setIfInBounds_toArray, List.set_cons_zero, List.set_cons_succ]
  refine wpAnyH_ready (rs := [10]) (by kernel_rfl) (by simp) ?_
  refine AllReadyH.cons rfl (fun K hK => ?_) AllReadyH.nil
  refine if_wanted rfl ?_
  refine wp_assign0 (v := .int .i64 iv) rfl rfl ?_
  refine hK.out _ _ hHeld (fun hHeld => ?_)
  clear hK K
  try simp only [Act.put, List.getElem_toArray, List.getElem_cons_zero, List.getElem_cons_succ, List.setIfInBounds_toArray, List.set_cons_zero, List.set_cons_succ]
  refine wpAnyH_ready (rs := [11]) (by kernel_rfl) (by simp) ?_
  refine AllReadyH.cons rfl (fun K hK => ?_) AllReadyH.nil
  refine if_wanted rfl ?_
  refine wp_assign0 (v := .int .i64 cd) rfl rfl ?_
  refine hK.out _ _ hHeld (fun hHeld => ?_)
  clear hK K
  try simp only [Act.put, List.getElem_toArray, List.getElem_cons_zero, List.getElem_cons_succ, List.setIfInBounds_toArray, List.set_cons_zero, List.set_cons_succ]
  refine wpAnyH_done (by kernel_rfl) ?_ _
  try simp only [Act.put, List.getElem_toArray, List.getElem_cons_zero, List.getElem_cons_succ, List.setIfInBounds_toArray, List.set_cons_zero, List.set_cons_succ]
  have hb := hHeld
  clear hHeld
  clear hbase
  have HB_1 : Hid (Below w.heap.size w z3) := HB_0.out.trans (hb.mono HB_0.out.size)
  have KX_1 : Hid (Blk z3 w.heap.size 25 #[.int .u8 k, .int .i16 y]) := KX_0.out.keep hb
  clear hb HB_0 KX_0
  go_wp2_with fail
  refine (toRack_any xss A c _ hm0 hxm0 (HR0.out.keep HB_1.out)).mono ?_
  rintro e w1 ⟨rfl, ⟨gsX, hR⟩, hb⟩
  have HB_2 : Hid (Below w.heap.size w w1) := HB_1.out.trans (hb.mono HB_1.out.size)
  have KX_2 : Hid (Blk w1 w.heap.size 25 #[.int .u8 k, .int .i16 y]) := KX_1.out.keep hb
  clear hb HB_1 KX_1
  have X_2 : Hid (RsN w1 z3.heap.size 43 52 wcells xss gsX) := hR
  clear hR
  have d0 : w1.cell? ⟨w.heap.size, 0, none⟩ = some (.int .u8 k) := KX_2.out.cell 0
  have d1 : w1.cell? ⟨w.heap.size, 1, none⟩ = some (.int .i16 y) := KX_2.out.cell 1
  go_wp2_with fail
  refine (toBottle_any k y _).mono ?_
  rintro e w2 ⟨rfl, hb⟩
  clear d0 d1
  have HB_3 : Hid (Below w.heap.size w w2) := HB_2.out.trans (hb.mono HB_2.out.size)
  have KX_3 : Hid (Blk w2 w.heap.size 25 #[.int .u8 k, .int .i16 y]) := KX_2.out.keep hb
  have X_3 : Hid (RsN w2 z3.heap.size 43 52 wcells xss gsX) := X_2.out.keep hb
  clear hb HB_2 KX_2 X_2
  go_wp2_with fail
  refine (HI.out _ _ _ _ X_3.out (HE.out.below HB_3.out (Nat.le_refl _))).mono ?_
  rintro e w3 ⟨rfl, hb⟩
  have HB_4 : Hid (Below w.heap.size w w3) := HB_3.out.trans (hb.mono HB_3.out.size)
  have KX_4 : Hid (Blk w3 w.heap.size 25 #[.int .u8 k, .int .i16 y]) := KX_3.out.keep hb
  have X_4 : Hid (RsN w3 z3.heap.size 43 52 wcells xss gsX) := X_3.out.keep hb
  clear hb HB_3 KX_3 X_3
  go_wp2_with fail
  refine (toRack_any xss A c _ hm0 hxm0 (HR0.out.keep HB_4.out)).mono ?_
  rintro e w4 ⟨rfl, ⟨gsZ, hR⟩, hb⟩
  have HB_5 : Hid (Below w.heap.size w w4) := HB_4.out.trans (hb.mono HB_4.out.size)
  have KX_5 : Hid (Blk w4 w.heap.size 25 #[.int .u8 k, .int .i16 y]) := KX_4.out.keep hb
  have X_5 : Hid (RsN w4 z3.heap.size 43 52 wcells xss gsX) := X_4.out.keep hb
  clear hb HB_4 KX_4 X_4
  have Z_5 : Hid (RsN w4 w3.heap.size 43 52 wcells xss gsZ) := hR
  clear hR
  go_wp2_with fail
  refine (eqRack_same xss _ _ _ _ _ hm0 hxm0 X_5.out.rd Z_5.out.rd).mono ?_
  rintro e w5 ⟨rfl, hb⟩
  clear Z_5
  have HB_6 : Hid (Below w.heap.size w w5) := HB_5.out.trans (hb.mono HB_5.out.size)
  have KX_6 : Hid (Blk w5 w.heap.size 25 #[.int .u8 k, .int .i16 y]) := KX_5.out.keep hb
  have X_6 : Hid (RsN w5 z3.heap.size 43 52 wcells xss gsX) := X_5.out.keep hb
  clear hb HB_5 KX_5 X_5
  go_wp2
  go_ret
  exact ⟨rfl, HB_6.out⟩
end Go.Proofs.YtdgcgkeclcpafaaDoor
