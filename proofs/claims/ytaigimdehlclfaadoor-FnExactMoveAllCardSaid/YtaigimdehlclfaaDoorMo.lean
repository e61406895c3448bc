/-
  The contract of the model's l03Moved. Condition: the crate's length, that its numbers and those of the move fit their kinds.
-/
import Derived.Test.YtaigimdehlclfaaDoorMm
import Derived.Test.YtaigimdehlclfaaDoorSp
namespace Go.Proofs.YtaigimdehlclfaaDoor
open Go.ChangeShapes Go.WideShapes Go.ChangeAt Go.RowKit Go.Deep

theorem ret_code {a b : Int} (h : a = b) : Ending.returned (.int .i64 a) = .returned (.int .i64 b) := by rw [h]

set_option maxRecDepth 100000 in
set_option maxHeartbeats 4000000 in
theorem l03Moved_any (bs : List Bot) (hwf : WfC bs) (x y : Int) (hs : wfS (x, y)) (B : Nat) (w : World) (hc : CBlk w B 30 bs) :
    Calls Tryd.prog 12 #[.pointer (some ⟨B, 0, none⟩), .agg #[.int .i8 x, .int .i8 y]] w
    fun e w' => e = .returned (.int .i64 (mvC bs (x, y))) ∧ CBlk w' B 30 (mvR bs (x, y)) ∧ w.grownBy w' (some B) := by
  have HW := Lib.hid hwf
  obtain ⟨⟨x1, x2⟩, y1, y2⟩ := hs
  dsimp only at x1 x2 y1 y2
  clear hwf
  have hBl := hc.lt
  have h1 : CBlk (w.alloc (.cells #[.int .i8 x, .int .i8 y] 44)) B 30 bs := hc.alloc _
  have h2 : Blk (w.alloc (.cells #[.int .i8 x, .int .i8 y] 44)) w.heap.size 44 #[.int .i8 x, .int .i8 y] := Blk.new _ _ _
  have hb : w.grownBy (w.alloc (.cells #[.int .i8 x, .int .i8 y] 44)) (some B) := gb_alloc (gb_refl _ _) _
  obtain ⟨N, hN⟩ : ∃ N, w.heap.size = N := ⟨_, rfl⟩
  rw [hN] at h2 hBl
  obtain ⟨W1, hW1⟩ : ∃ W1, w.alloc (.cells #[.int .i8 x, .int .i8 y] 44) = W1 := ⟨_, rfl⟩
  rw [hW1] at h1 h2 hb
  have H1 := Lib.hid h1
  have H2 := Lib.hid h2
  have HB := Lib.hid hb
  clear h1 h2 hb hc
  have e3 : W1.cell? ⟨N, 0, none⟩ = some (.int .i8 x) := H2.out.cell 0
  have e4 : W1.cell? ⟨N, 1, none⟩ = some (.int .i8 y) := H2.out.cell 1
  go_enter Tryd.func12, Tryd.ntmps12
  go_wp2_with fail
  clear hW1
  refine (l03Can_any x y ⟨x1, x2⟩ ⟨y1, y2⟩ _).mono ?_
  rintro e w2 ⟨rfl, hb2⟩
  have L1 : Hid (CBlk w2 B 30 bs) := H1.out.below hb2 H1.out.lt
  have L2 : Hid (Blk w2 N 44 #[.int .i8 x, .int .i8 y]) := H2.out.below hb2 H2.out.lt
  have LB : Hid (w.grownBy w2 (some B)) := gb_below HB.out hb2
  clear hb2 H1 H2 HB e3 e4
  cases hcan : canS (x, y)
  · have hv := mvC_no (X := bs) hcan
    have HV := Lib.hid hv
    clear hv hcan
    go_wp2_with fail
    go_ret
    exact ⟨ret_code HV.out.symm, by rw [mvR_no (by rw [HV.out]; decide)]; exact L1.out, LB.out⟩
  obtain ⟨i, j, hij, hi, hj⟩ := canS_nat hcan
  obtain ⟨rfl, rfl⟩ : x = i ∧ y = j := by simpa using hij
  clear hcan hij x1 x2 y1 y2
  obtain ⟨ki, yi, hbi, -, -⟩ := HW.out.at_ hi
  obtain ⟨kj, yj, hbj, -, -⟩ := HW.out.at_ hj
  have hI0 : (0 : Int) ≤ i := by omega
  have hI1 : (i : Int) < 12 := by omega
  have hJ0 : (0 : Int) ≤ j := by omega
  have hJ1 : (j : Int) < 12 := by omega
  have hv := mvC_nat hi hj hbi hbj
  have HV := Lib.hid hv
  have HBi := Lib.hid hbi
  have HBj := Lib.hid hbj
  clear hv hbi hbj
  go_wp2_with fail
  refine wp_region_held_drew (S := fun w' => Below w2.heap.size w2 w') (by kernel_rfl) (Below.refl _ _).drew (fun hHeld => ?_)
  refine wpAnyH_take (i := 0) (v := .pointer (some ⟨B, 0, none⟩)) rfl (by kernel_rfl) (by kernel_rfl) (by kernel_rfl) (fun _ _ _ h => h) (Or.inl ⟨by rfl, fun w' h => by go_simp⟩) (by assumption) ?_
  try simp only [Act.put, List.getElem_toArray, List.getElem_cons_zero, List.getElem_cons_succ, List.setIfInBounds_toArray, List.set_cons_zero, List.set_cons_succ]
  refine wpAnyH_take (i := 1) (v := .pointer (some ⟨N, 0, none⟩)) rfl (by kernel_rfl) (by kernel_rfl) (by kernel_rfl) (fun _ _ _ h => h) (Or.inl ⟨by rfl, fun w' h => by go_simp⟩) (by assumption) ?_
  try simp only [Act.put, List.getElem_toArray, List.getElem_cons_zero, List.getElem_cons_succ, List.setIfInBounds_toArray, List.set_cons_zero, List.set_cons_succ]
  refine wpAnyH_take (i := 2) (v := .int .i8 (i : Int)) rfl (by kernel_rfl) (by kernel_rfl) (by kernel_rfl) (fun _ _ _ h => h) (Or.inl ⟨by rfl, fun w' h => by have e3 : w'.cell? ⟨N, 0, none⟩ = some (.int .i8 (i : Int)) := (L2.out.below h L2.out.lt).cell 0; go_simp⟩) (by assumption) ?_
  try simp only [Act.put, List.getElem_toArray, List.getElem_cons_zero, List.getElem_cons_succ, List.setIfInBounds_toArray, List.set_cons_zero, List.set_cons_succ]
  refine wpAnyH_take (i := 3) (v := .pointer (some ⟨B, 0, none⟩)) rfl (by kernel_rfl) (by kernel_rfl) (by kernel_rfl) (fun _ _ _ h => h) (Or.inl ⟨by rfl, fun w' h => by go_simp⟩) (by assumption) ?_
  try simp only [Act.put, List.getElem_toArray, List.getElem_cons_zero, List.getElem_cons_succ, List.setIfInBounds_toArray, List.set_cons_zero, List.set_cons_succ]
  refine wpAnyH_take (i := 4) (v := .pointer (some ⟨B, i * 2, none⟩)) rfl (by kernel_rfl) (by kernel_rfl) (by kernel_rfl) (fun _ _ _ h => h) (Or.inl ⟨by rfl, fun w' h => by go_simp⟩) (by assumption) ?_
  try simp only [Act.put, List.getElem_toArray, List.getElem_cons_zero, List.getElem_cons_succ, List.setIfInBounds_toArray, List.set_cons_zero, List.set_cons_succ]
  refine wpAnyH_take (i := 5) (v := .agg #[.int .u8 ki, .int .i16 yi]) rfl (by kernel_rfl) (by kernel_rfl) (by kernel_rfl) (fun _ _ _ h => h) (Or.inl ⟨by rfl, fun w' h => by have e1 := (L1.out.below h L1.out.lt).kind' HBi.out; have e2 := (L1.out.below h L1.out.lt).year' HBi.out; go_simp⟩) (by assumption) ?_
  try simp only [Act.put, List.getElem_toArray, List.getElem_cons_zero, List.getElem_cons_succ, List.setIfInBounds_toArray, List.set_cons_zero, List.set_cons_succ]
  obtain ⟨D0, hD0⟩ : ∃ D0, w2.drew = D0 := ⟨_, rfl⟩
  rw [hD0] at hHeld ⊢
  clear hD0
  refine wpAnyH_ready (rs := [6]) (by kernel_rfl) (by simp) ?_
  refine AllReadyH.cons rfl (fun K hK => ?_) AllReadyH.nil
  refine if_wanted rfl ?_
  go_simp
  refine (l01Free_any ki yi _).mono ?_
  rintro e w3 ⟨rfl, hb⟩
  have hH2 : Below w2.heap.size w2 w3 := hHeld.trans (hb.mono hHeld.size)
  have hbase := hHeld.size
  clear hb hHeld
  dsimp only
  refine hK.out _ _ hH2 (fun hHeld => ?_)
  clear hK K hH2
  try simp only [Act.put, List.getElem_toArray, List.getElem_cons_zero, List.getElem_cons_succ, List.setIfInBounds_toArray, List.set_cons_zero, List.set_cons_succ]
  refine wpAnyH_ready (rs := [7]) (by kernel_rfl) (by simp) ?_
  refine AllReadyH.cons rfl (fun K hK => ?_) AllReadyH.nil
  refine if_wanted rfl ?_
  refine wp_assign0 (v := .bool (eB (ki, yi))) rfl rfl ?_
  refine hK.out _ _ hHeld (fun hHeld => ?_)
  clear hK K
  try simp only [Act.put, List.getElem_toArray, List.getElem_cons_zero, List.getElem_cons_succ, List.setIfInBounds_toArray, List.set_cons_zero, List.set_cons_succ]
  refine wpAnyH_done (by kernel_rfl) ?_ _
  try simp only [Act.put, List.getElem_toArray, List.getElem_cons_zero, List.getElem_cons_succ, List.setIfInBounds_toArray, List.set_cons_zero, List.set_cons_succ]
  have hb := hHeld
  clear hHeld
  have hb3 := hb
  clear hb
  have M1 : Hid (CBlk w3 B 30 bs) := L1.out.below hb3 L1.out.lt
  have M2 : Hid (Blk w3 N 44 #[.int .i8 (i : Int), .int .i8 (j : Int)]) := L2.out.below hb3 L2.out.lt
  have MB : Hid (w.grownBy w3 (some B)) := gb_below LB.out hb3
  clear hb3 L1 L2 LB
  cases hfi : eB (ki, yi)
  rotate_left
  · have hv : mvC bs ((i : Int), (j : Int)) = 6 := by rw [HV.out, hfi]; rfl
    have HV6 := Lib.hid hv
    clear hv hfi
    go_wp2_with fail
    go_ret
    exact ⟨ret_code HV6.out.symm, by rw [mvR_no (by rw [HV6.out]; decide)]; exact M1.out, MB.out⟩
  have HFi := Lib.hid hfi
  clear hfi
  go_wp2_with fail
  refine wp_region_held_drew (S := fun w' => Below w3.heap.size w3 w') (by kernel_rfl) (Below.refl _ _).drew (fun hHeld => ?_)
  refine wpAnyH_take (i := 0) (v := .pointer (some ⟨B, 0, none⟩)) rfl (by kernel_rfl) (by kernel_rfl) (by kernel_rfl) (fun _ _ _ h => h) (Or.inl ⟨by rfl, fun w' h => by go_simp⟩) (by assumption) ?_
  try simp only [Act.put, List.getElem_toArray, List.getElem_cons_zero, List.getElem_cons_succ, List.setIfInBounds_toArray, List.set_cons_zero, List.set_cons_succ]
  refine wpAnyH_take (i := 1) (v := .pointer (some ⟨N, 1, none⟩)) rfl (by kernel_rfl) (by kernel_rfl) (by kernel_rfl) (fun _ _ _ h => h) (Or.inl ⟨by rfl, fun w' h => by go_simp⟩) (by assumption) ?_
  try simp only [Act.put, List.getElem_toArray, List.getElem_cons_zero, List.getElem_cons_succ, List.setIfInBounds_toArray, List.set_cons_zero, List.set_cons_succ]
  refine wpAnyH_take (i := 2) (v := .int .i8 (j : Int)) rfl (by kernel_rfl) (by kernel_rfl) (by kernel_rfl) (fun _ _ _ h => h) (Or.inl ⟨by rfl, fun w' h => by have e3 : w'.cell? ⟨N, 1, none⟩ = some (.int .i8 (j : Int)) := (M2.out.below h M2.out.lt).cell 1; go_simp⟩) (by assumption) ?_
  try simp only [Act.put, List.getElem_toArray, List.getElem_cons_zero, List.getElem_cons_succ, List.setIfInBounds_toArray, List.set_cons_zero, List.set_cons_succ]
  refine wpAnyH_take (i := 3) (v := .pointer (some ⟨B, 0, none⟩)) rfl (by kernel_rfl) (by kernel_rfl) (by kernel_rfl) (fun _ _ _ h => h) (Or.inl ⟨by rfl, fun w' h => by go_simp⟩) (by assumption) ?_
  try simp only [Act.put, List.getElem_toArray, List.getElem_cons_zero, List.getElem_cons_succ, List.setIfInBounds_toArray, List.set_cons_zero, List.set_cons_succ]
  refine wpAnyH_take (i := 4) (v := .pointer (some ⟨B, j * 2, none⟩)) rfl (by kernel_rfl) (by kernel_rfl) (by kernel_rfl) (fun _ _ _ h => h) (Or.inl ⟨by rfl, fun w' h => by go_simp⟩) (by assumption) ?_
  try simp only [Act.put, List.getElem_toArray, List.getElem_cons_zero, List.getElem_cons_succ, List.setIfInBounds_toArray, List.set_cons_zero, List.set_cons_succ]
  refine wpAnyH_take (i := 5) (v := .agg #[.int .u8 kj, .int .i16 yj]) rfl (by kernel_rfl) (by kernel_rfl) (by kernel_rfl) (fun _ _ _ h => h) (Or.inl ⟨by rfl, fun w' h => by have e1 := (M1.out.below h M1.out.lt).kind' HBj.out; have e2 := (M1.out.below h M1.out.lt).year' HBj.out; go_simp⟩) (by assumption) ?_
  try simp only [Act.put, List.getElem_toArray, List.getElem_cons_zero, List.getElem_cons_succ, List.setIfInBounds_toArray, List.set_cons_zero, List.set_cons_succ]
  obtain ⟨D0, hD0⟩ : ∃ D0, w3.drew = D0 := ⟨_, rfl⟩
  rw [hD0] at hHeld ⊢
  clear hD0
  refine wpAnyH_ready (rs := [6]) (by kernel_rfl) (by simp) ?_
  refine AllReadyH.cons rfl (fun K hK => ?_) AllReadyH.nil
  refine if_wanted rfl ?_
  go_simp
  refine (l01Free_any kj yj _).mono ?_
  rintro e w4 ⟨rfl, hb⟩
  have hH2 : Below w3.heap.size w3 w4 := hHeld.trans (hb.mono hHeld.size)
  have hbase := hHeld.size
  clear hb hHeld
  dsimp only
  refine hK.out _ _ hH2 (fun hHeld => ?_)
  clear hK K hH2
  try simp only [Act.put, List.getElem_toArray, List.getElem_cons_zero, List.getElem_cons_succ, List.setIfInBounds_toArray, List.set_cons_zero, List.set_cons_succ]
  refine wpAnyH_take (i := 7) (v := .bool (!eB (kj, yj))) rfl (by kernel_rfl) (by kernel_rfl) (by kernel_rfl) (fun _ _ _ h => h) (Or.inl ⟨by rfl, fun w' h => by go_simp⟩) (by assumption) ?_
  try simp only [Act.put, List.getElem_toArray, List.getElem_cons_zero, List.getElem_cons_succ, List.setIfInBounds_toArray, List.set_cons_zero, List.set_cons_succ]
  refine wpAnyH_ready (rs := [8]) (by kernel_rfl) (by simp) ?_
  refine AllReadyH.cons rfl (fun K hK => ?_) AllReadyH.nil
  refine if_wanted rfl ?_
  refine wp_assign0 (v := .bool (!eB (kj, yj))) rfl rfl ?_
  refine hK.out _ _ hHeld (fun hHeld => ?_)
  clear hK K
  try simp only [Act.put, List.getElem_toArray, List.getElem_cons_zero, List.getElem_cons_succ, List.setIfInBounds_toArray, List.set_cons_zero, List.set_cons_succ]
  refine wpAnyH_done (by kernel_rfl) ?_ _
  try simp only [Act.put, List.getElem_toArray, List.getElem_cons_zero, List.getElem_cons_succ, List.setIfInBounds_toArray, List.set_cons_zero, List.set_cons_succ]
  have hb := hHeld
  clear hHeld
  have hb4 := hb
  clear hb
  have P1 : Hid (CBlk w4 B 30 bs) := M1.out.below hb4 M1.out.lt
  have P2 : Hid (Blk w4 N 44 #[.int .i8 (i : Int), .int .i8 (j : Int)]) := M2.out.below hb4 M2.out.lt
  have PB : Hid (w.grownBy w4 (some B)) := gb_below MB.out hb4
  clear hb4 M1 M2 MB
  cases hfj : eB (kj, yj)
  · have hv : mvC bs ((i : Int), (j : Int)) = 4 := by rw [HV.out, HFi.out, hfj]; rfl
    have HV4 := Lib.hid hv
    clear hv hfj
    go_wp2_with fail
    go_ret
    exact ⟨ret_code HV4.out.symm, by rw [mvR_no (by rw [HV4.out]; decide)]; exact P1.out, PB.out⟩
  have hv : mvC bs ((i : Int), (j : Int)) = 0 := by rw [HV.out, HFi.out, hfj]; rfl
  have HV0 := Lib.hid hv
  have hR := mvR_nat hi hj HBi.out HFi.out HBj.out hfj
  obtain ⟨R, hRe⟩ : ∃ R, mvR bs ((i : Int), (j : Int)) = R := ⟨_, rfl⟩
  rw [hRe] at hR
  have HR := Lib.hid hR
  have HRe := Lib.hid hRe
  clear hv hfj hR hRe HV
  have e3 : w4.cell? ⟨N, 0, none⟩ = some (.int .i8 (i : Int)) := P2.out.cell 0
  have e4 : w4.cell? ⟨N, 1, none⟩ = some (.int .i8 (j : Int)) := P2.out.cell 1
  have a1 := P1.out.kind' HBi.out
  have a2 := P1.out.year' HBi.out
  have b1 := P1.out.kind' HBj.out
  have b2 := P1.out.year' HBj.out
  have a3 := P1.out.frozen (i * 2)
  have a4 := P1.out.frozen (i * 2 + 1)
  have b3 := P1.out.frozen (j * 2)
  have b4 := P1.out.frozen (j * 2 + 1)
  have m1 : CBlk ((w4.setCell ⟨B, j * 2, none⟩ (.int .u8 ki)).setCell ⟨B, j * 2 + 1, none⟩ (.int .i16 yi)) B 30 (bs.set j (ki, yi)) := P1.out.set j (by rw [HW.out.1]; exact hj) (ki, yi)
  have m2 : Blk ((w4.setCell ⟨B, j * 2, none⟩ (.int .u8 ki)).setCell ⟨B, j * 2 + 1, none⟩ (.int .i16 yi)) N 44 #[.int .i8 (i : Int), .int .i8 (j : Int)] := (P2.out.far (by show _ ≠ B; omega) _).far (by show _ ≠ B; omega) _
  have mb : w.grownBy ((w4.setCell ⟨B, j * 2, none⟩ (.int .u8 ki)).setCell ⟨B, j * 2 + 1, none⟩ (.int .i16 yi)) (some B) := gb_set (gb_set PB.out _) _
  have M1 := Lib.hid m1
  have M2 := Lib.hid m2
  have MB := Lib.hid mb
  clear m1 m2 mb P1 P2 PB
  go_wp2_with fail
  go_region
  have n1 : CBlk ((w4.setCell ⟨B, j * 2, none⟩ (.int .u8 ki)).setCell ⟨B, j * 2 + 1, none⟩ (.int .i16 yi)).drew B 30 (bs.set j (ki, yi)) := M1.out
  have n2 : Blk ((w4.setCell ⟨B, j * 2, none⟩ (.int .u8 ki)).setCell ⟨B, j * 2 + 1, none⟩ (.int .i16 yi)).drew N 44 #[.int .i8 (i : Int), .int .i8 (j : Int)] := M2.out
  have nb : w.grownBy ((w4.setCell ⟨B, j * 2, none⟩ (.int .u8 ki)).setCell ⟨B, j * 2 + 1, none⟩ (.int .i16 yi)).drew (some B) := gb_drew MB.out
  obtain ⟨W3, hW3⟩ : ∃ W3, ((w4.setCell ⟨B, j * 2, none⟩ (.int .u8 ki)).setCell ⟨B, j * 2 + 1, none⟩ (.int .i16 yi)).drew = W3 := ⟨_, rfl⟩
  rw [hW3] at n1 n2 nb ⊢
  clear hW3 a1 a2 a3 a4 b1 b2 b3 b4 e3 e4 M1 M2 MB
  have hyl : (bs.set j (ki, yi)).length = 12 := by rw [List.length_set]; exact HW.out.1
  obtain ⟨⟨kq, yq⟩, hq⟩ : ∃ q, (bs.set j (ki, yi))[i]? = some q := ⟨_, List.getElem?_eq_getElem (by rw [hyl]; exact hi)⟩
  have a1 := n1.kind' hq
  have a2 := n1.year' hq
  have a3 := n1.frozen (i * 2)
  have a4 := n1.frozen (i * 2 + 1)
  have e3 : W3.cell? ⟨N, 0, none⟩ = some (.int .i8 (i : Int)) := n2.cell 0
  have q1 : CBlk ((W3.setCell ⟨B, i * 2, none⟩ (.int .u8 0)).setCell ⟨B, i * 2 + 1, none⟩ (.int .i16 0)) B 30 ((bs.set j (ki, yi)).set i (0, 0)) := n1.set i (by rw [hyl]; exact hi) (0, 0)
  have qb : w.grownBy ((W3.setCell ⟨B, i * 2, none⟩ (.int .u8 0)).setCell ⟨B, i * 2 + 1, none⟩ (.int .i16 0)) (some B) := gb_set (gb_set nb _) _
  rw [HR.out] at q1
  have Q1 := Lib.hid q1
  have QB := Lib.hid qb
  clear n1 n2 nb q1 qb hq hyl HBi HBj HW
  go_wp2_with fail
  go_region
  go_wp2_with fail
  go_ret
  exact ⟨ret_code HV0.out.symm, by rw [HRe.out]; exact Q1.out, gb_drew QB.out⟩
end Go.Proofs.YtaigimdehlclfaaDoor
