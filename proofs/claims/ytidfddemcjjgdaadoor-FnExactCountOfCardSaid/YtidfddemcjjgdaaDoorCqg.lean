/-
  FnExactCountOf: for every list of crates and every bottle the law returns true, and its arguments read as before. No condition but that the sentinel errors hold what the program's text lays (tied).
-/
import Derived.Test.YtidfddemcjjgdaaDoorCards
import Derived.Test.YtidfddemcjjgdaaDoorTie
import Derived.Test.YtidfddemcjjgdaaDoorG
import Derived.Test.YtidfddemcjjgdaaDoorCp
import Derived.SevenTiedAt
namespace Go.Proofs.YtidfddemcjjgdaaDoor
open Go.ChangeShapes Go.WideShapes Go.ChangeAt Go.RowKit Go.Deep

set_option maxRecDepth 100000 in
set_option maxHeartbeats 4000000 in
theorem coLaw_any (xs : List Crt) (p q : Int) (hb : wfB (p, q)) (A : Option Addr) (c : Nat) (ad : Nat → Addr) (w : World) (hl : xs.length ≤ 9223372036854775807) (hr : Rd w w.heap.size kcells A xs) (hE : EW 7 w ad) :
    Calls Tryd.prog 11 #[.slice A xs.length c, .agg #[.int .u8 p, .int .i16 q]] w (Good w) := by
  have HR := Lib.hid hr
  have HWb := Lib.hid hb
  have HE := Lib.hid hE
  clear hr hb hE
  have h1 : Blk (w.alloc (.cells #[.int .u8 p, .int .i16 q] 24)) w.heap.size 24 #[.int .u8 p, .int .i16 q] := Blk.new' rfl rfl
  have h2 : Below w.heap.size w (w.alloc (.cells #[.int .u8 p, .int .i16 q] 24)) := (by repeat (first | exact Below.refl _ _ | refine Below.drew ?_ | refine Below.alloc ?_ (by simp <;> omega) _ | refine Below.setCell ?_ (by simp <;> omega) _))
  obtain ⟨W0, hW0⟩ : ∃ W0, (w.alloc (.cells #[.int .u8 p, .int .i16 q] 24)) = W0 := ⟨_, rfl⟩
  rw [hW0] at h1 h2
  have HK0 := Lib.hid h1
  have HB0 := Lib.hid h2
  clear h1 h2
  go_enter Tryd.func11, Tryd.ntmps11
  go_wp2_with fail
  clear hW0
  refine (szCrateS_any A xs.length c 1048576 hl ⟨by omega, by omega⟩ _).mono ?_
  rintro e w' ⟨rfl, rfl⟩
  by_cases hn : (1048576 : Int) < xs.length
  · rw [if_pos hn]
    go_wp2
    go_ret
    exact ⟨rfl, HB0.out⟩
  rw [if_neg hn]
  have hn0 : (0 : Int) ≤ 1048576 - xs.length := by omega
  have hl2 : xs.length ≤ 1048576 := by omega
  go_wp2_with fail
  obtain ⟨cn, hcn⟩ : ∃ n, coN xs (p, q) = n := ⟨_, rfl⟩
  obtain ⟨cc, hcc⟩ : ∃ n, coC xs (p, q) = n := ⟨_, rfl⟩
  have HS : Hid (∀ A c w, Rd w w.heap.size kcells A xs → Calls Tryd.prog 46 #[.slice A xs.length c, .agg #[.int .u8 p, .int .i16 q]] w fun e w' => e = .returned (.tuple #[.int .i64 cn, .int .i64 cc]) ∧ Below w.heap.size w w') := by
    have := fun A c w hr => specCountOf_any xs p q HWb.out A c w hl2 hr
    unfold coV at this
    rw [hcn, hcc] at this; exact this
  have HI : Hid (∀ A c w, Rd w w.heap.size kcells A xs → EW 7 w ad → Calls Tryd.prog 48 #[.slice A xs.length c, .agg #[.int .u8 p, .int .i16 q]] w fun e w' => e = .returned (.tuple #[.int .i64 cn, .int .i64 cc]) ∧ Below w.heap.size w w') := by
    have := fun A c w hr hE => implCountOf_any xs p q HWb.out A c ad w hl2 hr hE
    unfold coV at this
    rw [hcn, hcc] at this; exact this
  clear hcn hcc
  refine wp_region_held_drew (S := fun w' => Below W0.heap.size W0 w') (by kernel_rfl) (Below.refl _ _).drew (fun hHeld => ?_)
  refine wpAnyH_take (i := 0) (v := .slice A xs.length c) rfl (by kernel_rfl) (by kernel_rfl) (by kernel_rfl) (fun _ _ _ h => h) (Or.inl ⟨by rfl, fun w' h => by go_simp⟩) (by assumption) ?_
  try simp only [Act.put, List.getElem_toArray, List.getElem_cons_zero, List.getElem_cons_succ, List.setIfInBounds_toArray, List.set_cons_zero, List.set_cons_succ]
  refine wpAnyH_take (i := 2) (v := .agg #[.int .u8 p, .int .i16 q]) rfl (by kernel_rfl) (by kernel_rfl) (by kernel_rfl) (fun _ _ _ h => h) (Or.inl ⟨by rfl, fun w' h => by have e3 : w'.cell? ⟨w.heap.size, 0, none⟩ = some (.int .u8 p) := (HK0.out.below h HK0.out.lt).cell 0; have e4 : w'.cell? ⟨w.heap.size, 1, none⟩ = some (.int .i16 q) := (HK0.out.below h HK0.out.lt).cell 1; go_simp⟩) (by assumption) ?_
  try simp only [Act.put, List.getElem_toArray, List.getElem_cons_zero, List.getElem_cons_succ, List.setIfInBounds_toArray, List.set_cons_zero, List.set_cons_succ]
  obtain ⟨D0, hD0⟩ : ∃ D0, W0.drew = D0 := ⟨_, rfl⟩
  rw [hD0] at hHeld ⊢
  clear hD0
  refine wpAnyH_ready (rs := [1]) (by kernel_rfl) (by simp) ?_
  refine AllReadyH.cons rfl (fun K hK => ?_) AllReadyH.nil
  refine if_wanted rfl ?_
  go_simp
  refine (toCrateS_any xs A c _ hl2 (HR.out.keep (HB0.out.trans (hHeld.mono HB0.out.size)))).mono ?_
  rintro e y1 ⟨rfl, hR, hb⟩
  have hH2 : Below W0.heap.size W0 y1 := hHeld.trans (hb.mono hHeld.size)
  have HQ := Lib.hid hR
  clear hR
  clear hb hHeld
  dsimp only
  refine hK.out _ _ hH2 (fun hHeld => ?_)
  clear hK K hH2
  try simp only [Act.put, List.getElem_toArray, List.getElem_cons_zero, List.getElem_cons_succ, List.setIfInBounds_toArray, List.set_cons_zero, List.set_cons_succ]
  refine wpAnyH_ready (rs := [3]) (by kernel_rfl) (by simp) ?_
  refine AllReadyH.cons rfl (fun K hK => ?_) AllReadyH.nil
  refine if_wanted rfl ?_
  go_simp
  refine (toBottle_any p q _).mono ?_
  rintro e y2 ⟨rfl, hb⟩
  have hH2 : Below W0.heap.size W0 y2 := hHeld.trans (hb.mono hHeld.size)
  have hQ2 : Rs y2 D0.heap.size 31 kcells xs := Blk.keep HQ.out hb
  clear HQ
  have HQ := Lib.hid hQ2
  clear hQ2
  clear hb hHeld
  dsimp only
  refine hK.out _ _ hH2 (fun hHeld => ?_)
  clear hK K hH2
  try simp only [Act.put, List.getElem_toArray, List.getElem_cons_zero, List.getElem_cons_succ, List.setIfInBounds_toArray, List.set_cons_zero, List.set_cons_succ]
  refine wpAnyH_ready (rs := [4]) (by kernel_rfl) (by simp) ?_
  refine AllReadyH.cons rfl (fun K hK => ?_) AllReadyH.nil
  refine if_wanted rfl ?_
  go_simp
  refine (HS.out _ _ _ (HQ.out.rd HQ.out.lt)).mono ?_
  rintro e w1 ⟨rfl, hb⟩
  have hH2 : Below W0.heap.size W0 w1 := hHeld.trans (hb.mono hHeld.size)
  have hbase := hHeld.size
  clear HQ
  clear hb hHeld
  dsimp only
  refine hK.out _ _ hH2 (fun hHeld => ?_)
  clear hK K hH2
  try simp only [Act.put, List.getElem_toArray, List.getElem_cons_zero, List.getElem_cons_succ, List.setIfInBounds_toArray, List.set_cons_zero, List.set_cons_succ]
  refine wpAnyH_take (i := 5) (v := .tuple #[.int .i64 cn, .int .i64 cc]) rfl (by kernel_rfl) (by kernel_rfl) (by kernel_rfl) (fun _ _ _ h => h) (Or.inl ⟨by rfl, fun w' h => by go_simp⟩) (by assumption) ?_
  try simp only [Act.put, List.getElem_toArray, List.getElem_cons_zero, List.getElem_cons_succ, List.setIfInBounds_toArray, List.set_cons_zero, List.set_cons_succ]
  refine wpAnyH_take (i := 6) (v := .int .i64 cn) rfl (by kernel_rfl) (by kernel_rfl) (by kernel_rfl) (fun _ _ _ h => h) (Or.inl ⟨by rfl, fun w' h => by go_simp⟩) (by assumption) ?_
  try simp only [Act.put, List.getElem_toArray, List.getElem_cons_zero, List.getElem_cons_succ, List.setIfInBounds_toArray, List.set_cons_zero, List.set_cons_succ]
  refine wpAnyH_take (i := 7) (v := .int .i64 cc) rfl (by kernel_rfl) (by kernel_rfl) (by kernel_rfl) (fun _ _ _ h => h) (Or.inl ⟨by rfl, fun w' h => by go_simp⟩) (by assumption) ?_
  try simp only [Act.put, List.getElem_toArray, List.getElem_cons_zero, List.getElem_cons_succ, List.setIfInBounds_toArray, List.set_cons_zero, List.set_cons_succ]
  refine wpAnyH_ready (rs := [8]) (by kernel_rfl) (by simp) ?_
  refine AllReadyH.cons rfl (fun K hK => ?_) AllReadyH.nil
  refine if_wanted rfl ?_
  refine wp_assign0 (v := .int .i64 cn) rfl rfl ?_
  refine hK.out _ _ hHeld (fun hHeld => ?_)
  clear hK K
  try simp only [Act.put, List.getElem_toArray, List.getElem_cons_zero, List.getElem_cons_succ, List.setIfInBounds_toArray, List.set_cons_zero, List.set_cons_succ]
  refine wpAnyH_ready (rs := [9]) (by kernel_rfl) (by simp) ?_
  refine AllReadyH.cons rfl (fun K hK => ?_) AllReadyH.nil
  refine if_wanted rfl ?_
  refine wp_assign0 (v := .int .i64 cc) rfl rfl ?_
  refine hK.out _ _ hHeld (fun hHeld => ?_)
  clear hK K
  try simp only [Act.put, List.getElem_toArray, List.getElem_cons_zero, List.getElem_cons_succ, List.setIfInBounds_toArray, List.set_cons_zero, List.set_cons_succ]
  refine wpAnyH_done (by kernel_rfl) ?_ _
  try simp only [Act.put, List.getElem_toArray, List.getElem_cons_zero, List.getElem_cons_succ, List.setIfInBounds_toArray, List.set_cons_zero, List.set_cons_succ]
  have hb := hHeld
  clear hHeld
  clear hbase
  have HB1 : Hid (Below w.heap.size w w1) := HB0.out.trans (hb.mono HB0.out.size)
  have HK1 : Hid (Blk w1 w.heap.size 24 #[.int .u8 p, .int .i16 q]) := Blk.keep HK0.out hb
  clear hb
  clear HB0
  clear HK0
  go_wp2_with fail
  refine (toCrateS_any xs A c _ hl2 (HR.out.keep HB1.out)).mono ?_
  rintro e w2 ⟨rfl, hR, hb⟩
  have HB2 : Hid (Below w.heap.size w w2) := HB1.out.trans (hb.mono HB1.out.size)
  have HK2 : Hid (Blk w2 w.heap.size 24 #[.int .u8 p, .int .i16 q]) := Blk.keep HK1.out hb
  clear hb
  clear HB1
  clear HK1
  have HS2 := Lib.hid hR
  clear hR
  have e3 : w2.cell? ⟨w.heap.size, 0, none⟩ = some (.int .u8 p) := HK2.out.cell 0
  have e4 : w2.cell? ⟨w.heap.size, 1, none⟩ = some (.int .i16 q) := HK2.out.cell 1
  go_wp2_with fail
  refine (toBottle_any p q _).mono ?_
  rintro e w3 ⟨rfl, hb⟩
  clear e3 e4
  have HB3 : Hid (Below w.heap.size w w3) := HB2.out.trans (hb.mono HB2.out.size)
  have HK3 : Hid (Blk w3 w.heap.size 24 #[.int .u8 p, .int .i16 q]) := Blk.keep HK2.out hb
  have HS3 : Hid (Rs w3 w1.heap.size 31 kcells xs) := Blk.keep HS2.out hb
  clear hb
  clear HB2
  clear HK2
  clear HS2
  go_wp2_with fail
  refine (HI.out _ _ _ (HS3.out.rd HS3.out.lt) (HE.out.below HB3.out (Nat.le_refl _))).mono ?_
  rintro e w4 ⟨rfl, hb⟩
  have HB4 : Hid (Below w.heap.size w w4) := HB3.out.trans (hb.mono HB3.out.size)
  have HK4 : Hid (Blk w4 w.heap.size 24 #[.int .u8 p, .int .i16 q]) := Blk.keep HK3.out hb
  have HS4 : Hid (Rs w4 w1.heap.size 31 kcells xs) := Blk.keep HS3.out hb
  clear hb
  clear HB3
  clear HK3
  clear HS3
  go_wp2_with fail
  refine (toCrateS_any xs A c _ hl2 (HR.out.keep HB4.out)).mono ?_
  rintro e w5 ⟨rfl, hR, hb⟩
  have HB5 : Hid (Below w.heap.size w w5) := HB4.out.trans (hb.mono HB4.out.size)
  have HK5 : Hid (Blk w5 w.heap.size 24 #[.int .u8 p, .int .i16 q]) := Blk.keep HK4.out hb
  have HS5 : Hid (Rs w5 w1.heap.size 31 kcells xs) := Blk.keep HS4.out hb
  clear hb
  clear HB4
  clear HK4
  clear HS4
  have HU5 := Lib.hid hR
  clear hR
  go_wp2_with fail
  refine (eqCrateS_same xs _ _ _ _ _ (by omega) (HS5.out.rd HS5.out.lt) (HU5.out.rd HU5.out.lt)).mono ?_
  rintro e w6 ⟨rfl, hb⟩
  have HB6 : Hid (Below w.heap.size w w6) := HB5.out.trans (hb.mono HB5.out.size)
  have HK6 : Hid (Blk w6 w.heap.size 24 #[.int .u8 p, .int .i16 q]) := Blk.keep HK5.out hb
  have HS6 : Hid (Rs w6 w1.heap.size 31 kcells xs) := Blk.keep HS5.out hb
  have HU6 : Hid (Rs w6 w4.heap.size 31 kcells xs) := Blk.keep HU5.out hb
  clear hb
  clear HB5
  clear HK5
  clear HS5
  clear HU5
  go_wp2
  go_ret
  exact ⟨rfl, HB6.out⟩
end Go.Proofs.YtidfddemcjjgdaaDoor
