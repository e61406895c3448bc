/-
  The contract of the program's checkMove. Condition: the crate's length, that its numbers and those of the move fit their kinds; the sentinel errors lie as the row lists them.
-/
import Derived.Test.YtaigimdehlclfaaDoorMm
import Derived.Test.YtaigimdehlclfaaDoorSr
import Derived.Test.YtaigimdehlclfaaDoorFF
import Derived.WalkLawsBesides
namespace Go.Proofs.YtaigimdehlclfaaDoor
open Go.ChangeShapes Go.WideShapes Go.ChangeAt Go.RowKit Go.Deep

/-- The error of a code of a move. -/
def mvE (ad : Nat → Addr) (c : Int) : Value := if c = 2 then errV (ad 0) else if c = 6 then errV (ad 4) else if c = 4 then errV (ad 2) else .nilIface

set_option maxRecDepth 100000 in
set_option maxHeartbeats 4000000 in
theorem checkMove_any (bs : List Bot) (hwf : WfC bs) (x y : Int) (hs : wfS (x, y)) (ad : Nat → Addr) (w : World) (hE : EW 7 w ad) :
    Calls Tryd.prog 36 #[.agg (ccells bs).toArray, .agg #[.int .i8 x, .int .i8 y]] w
    fun e w' => e = .returned (mvE ad (mvC bs (x, y))) ∧ Below w.heap.size w w' := by
  have HW := Lib.hid hwf
  have HS := Lib.hid hs
  have h1 : CBlk ((w.alloc (.cells (ccells bs).toArray 30)).alloc (.cells #[.int .i8 x, .int .i8 y] 44)) w.heap.size 30 bs := (CBlk.new w _ bs).alloc _
  have h2 : Blk ((w.alloc (.cells (ccells bs).toArray 30)).alloc (.cells #[.int .i8 x, .int .i8 y] 44)) (w.heap.size + 1) 44 #[.int .i8 x, .int .i8 y] := Blk.new' (by simp) rfl
  have hb : Below w.heap.size w ((w.alloc (.cells (ccells bs).toArray 30)).alloc (.cells #[.int .i8 x, .int .i8 y] 44)) := (by repeat (first | exact Below.refl _ _ | refine Below.drew ?_ | refine Below.alloc ?_ (by simp <;> omega) _ | refine Below.setCell ?_ (by simp <;> omega) _))
  obtain ⟨W1, hW1⟩ : ∃ W1, ((w.alloc (.cells (ccells bs).toArray 30)).alloc (.cells #[.int .i8 x, .int .i8 y] 44)) = W1 := ⟨_, rfl⟩
  rw [hW1] at h1 h2 hb
  have H1 := Lib.hid h1
  have H2 := Lib.hid h2
  have HB := Lib.hid hb
  have HE := Lib.hid hE
  have e3 : W1.cell? ⟨w.heap.size + 1, 0, none⟩ = some (.int .i8 x) := h2.cell 0
  have e4 : W1.cell? ⟨w.heap.size + 1, 1, none⟩ = some (.int .i8 y) := h2.cell 1
  clear h1 h2 hb hwf hs hE
  go_enter Tryd.func36, Tryd.ntmps36
  go_wp2_with fail
  clear hW1
  refine (checkSwap_any x y HS.out ad _ (HE.out.below HB.out (Nat.le_refl _))).mono ?_
  rintro e w2 ⟨rfl, hb2⟩
  have L1 : Hid (CBlk w2 w.heap.size 30 bs) := H1.out.below hb2 H1.out.lt
  have L2 : Hid (Blk w2 (w.heap.size + 1) 44 #[.int .i8 x, .int .i8 y]) := H2.out.below hb2 H2.out.lt
  have LB : Hid (Below w.heap.size w w2) := HB.out.trans (hb2.mono HB.out.size)
  clear hb2 H1 H2 HB e3 e4
  cases hcan : canS (x, y)
  · have hv := mvC_no (X := bs) hcan
    have HV := Lib.hid hv
    rw [show erV ad 0 false = .iface 93 (.pointer (some (ad 0))) from rfl]
    clear hv hcan
    go_wp2_with fail
    go_ret
    exact ⟨by rw [HV.out]; rfl, LB.out⟩
  rw [show erV ad 0 true = .nilIface from rfl]
  obtain ⟨i, j, hij, hi, hj⟩ := canS_nat hcan
  obtain ⟨rfl, rfl⟩ : x = i ∧ y = j := by simpa using hij
  clear hcan hij
  obtain ⟨ki, yi, hbi, -, -⟩ := HW.out.at_ hi
  obtain ⟨kj, yj, hbj, -, -⟩ := HW.out.at_ hj
  have hI0 : (0 : Int) ≤ i := by omega
  have hI1 : (i : Int) < 12 := by omega
  have hJ0 : (0 : Int) ≤ j := by omega
  have hJ1 : (j : Int) < 12 := by omega
  have hv := mvC_nat hi hj hbi hbj
  have HV := Lib.hid hv
  have HBi := Lib.hid hbi
  have HBj := Lib.hid hbj
  clear hv hbi hbj
  have e3 : w2.cell? ⟨w.heap.size + 1, 0, none⟩ = some (.int .i8 (i : Int)) := L2.out.cell 0
  have a1 := L1.out.kind' HBi.out
  have a2 := L1.out.year' HBi.out
  go_wp2_with fail
  refine (isFree_any ki yi _).mono ?_
  rintro e w3 ⟨rfl, hb3⟩
  have M1 : Hid (CBlk w3 w.heap.size 30 bs) := L1.out.below hb3 L1.out.lt
  have M2 : Hid (Blk w3 (w.heap.size + 1) 44 #[.int .i8 (i : Int), .int .i8 (j : Int)]) := L2.out.below hb3 L2.out.lt
  have MB : Hid (Below w.heap.size w w3) := LB.out.trans (hb3.mono LB.out.size)
  clear hb3 L1 L2 LB e3 a1 a2
  cases hfi : eB (ki, yi)
  rotate_left
  · have hv : mvC bs ((i : Int), (j : Int)) = 6 := by rw [HV.out, hfi]; rfl
    have HV6 := Lib.hid hv
    have c4 : w3.cell? ⟨5, 0, none⟩ = some (.iface 93 (.pointer (some (ad 4)))) := (HE.out.below MB.out (Nat.le_refl _)).cell 4 (by omega)
    clear hv hfi
    go_wp2_with fail
    go_ret
    exact ⟨by rw [HV6.out]; rfl, MB.out⟩
  have HFi := Lib.hid hfi
  clear hfi
  have e4 : w3.cell? ⟨w.heap.size + 1, 1, none⟩ = some (.int .i8 (j : Int)) := M2.out.cell 1
  have a1 := M1.out.kind' HBj.out
  have a2 := M1.out.year' HBj.out
  go_wp2_with fail
  refine (isBottle_any kj yj _).mono ?_
  rintro e w4 ⟨rfl, hb4⟩
  have PB : Hid (Below w.heap.size w w4) := MB.out.trans (hb4.mono MB.out.size)
  clear hb4 M1 M2 MB e4 a1 a2
  cases hfj : eB (kj, yj)
  · have hv : mvC bs ((i : Int), (j : Int)) = 4 := by rw [HV.out, HFi.out, hfj]; rfl
    have HV4 := Lib.hid hv
    have c2 : w4.cell? ⟨3, 0, none⟩ = some (.iface 93 (.pointer (some (ad 2)))) := (HE.out.below PB.out (Nat.le_refl _)).cell 2 (by omega)
    clear hv hfj
    go_wp2_with fail
    go_ret
    exact ⟨by rw [HV4.out]; rfl, PB.out⟩
  have hv : mvC bs ((i : Int), (j : Int)) = 0 := by rw [HV.out, HFi.out, hfj]; rfl
  have HV0 := Lib.hid hv
  clear hv hfj
  go_wp2_with fail
  go_ret
  exact ⟨by rw [HV0.out]; rfl, PB.out⟩

/-- What a move that cannot be panics with. -/
def badV (ad : Nat → Addr) (c : Int) : Value := .iface 81 (.agg #[mvE ad c])
theorem mvE_isE (ad : Nat → Addr) (c : Int) : isE (mvE ad c) := by
  unfold mvE
  split
  · exact .inr ⟨_, rfl⟩
  split
  · exact .inr ⟨_, rfl⟩
  split
  · exact .inr ⟨_, rfl⟩
  exact .inl rfl

theorem mvE_ne (ad : Nat → Addr) {bs : List Bot} {s : Swp} (h : mvC bs s ≠ 0) : ∃ k, mvE ad (mvC bs s) = .iface 93 (.pointer (some (ad k))) := by
  cases hc : canS s
  · exact ⟨0, by rw [mvC_no hc]; rfl⟩
  · unfold mvC at h ⊢
    rw [if_pos hc] at h ⊢
    cases h1 : eB (bs.getD s.1.toNat (0, 0))
    · cases h2 : eB (bs.getD s.2.toNat (0, 0))
      · exact ⟨2, rfl⟩
      · exact absurd (by rw [if_neg (by rw [h1]; decide), if_pos h2]) h
    · exact ⟨4, rfl⟩

set_option maxRecDepth 100000 in
set_option maxHeartbeats 4000000 in
theorem moved_any (bs : List Bot) (hwf : WfC bs) (x y : Int) (hs : wfS (x, y)) (ad : Nat → Addr) (w : World) (hE : EW 7 w ad) :
    Calls Tryd.prog 28 #[.agg (ccells bs).toArray, .agg #[.int .i8 x, .int .i8 y]] w
    fun e w' => e = (if mvC bs (x, y) = 0 then .returned (.agg (ccells (mvR bs (x, y))).toArray) else .panicked [{ v := badV ad (mvC bs (x, y)), recovered := false }]) ∧ Below w.heap.size w w' := by
  have HW := Lib.hid hwf
  have HS := Lib.hid hs
  have h1 : CBlk (((w.alloc (.cells (ccells bs).toArray 30)).alloc (.cells #[.int .i8 x, .int .i8 y] 44)).alloc (.cells #[.int .u8 0, .int .i16 0, .int .u8 0, .int .i16 0, .int .u8 0, .int .i16 0, .int .u8 0, .int .i16 0, .int .u8 0, .int .i16 0, .int .u8 0, .int .i16 0, .int .u8 0, .int .i16 0, .int .u8 0, .int .i16 0, .int .u8 0, .int .i16 0, .int .u8 0, .int .i16 0, .int .u8 0, .int .i16 0, .int .u8 0, .int .i16 0] 30)) w.heap.size 30 bs := ((CBlk.new w _ bs).alloc _).alloc _
  have h2 : Blk (((w.alloc (.cells (ccells bs).toArray 30)).alloc (.cells #[.int .i8 x, .int .i8 y] 44)).alloc (.cells #[.int .u8 0, .int .i16 0, .int .u8 0, .int .i16 0, .int .u8 0, .int .i16 0, .int .u8 0, .int .i16 0, .int .u8 0, .int .i16 0, .int .u8 0, .int .i16 0, .int .u8 0, .int .i16 0, .int .u8 0, .int .i16 0, .int .u8 0, .int .i16 0, .int .u8 0, .int .i16 0, .int .u8 0, .int .i16 0, .int .u8 0, .int .i16 0] 30)) (w.heap.size + 1) 44 #[.int .i8 x, .int .i8 y] := by
    refine Blk.alloc ?_ _
    exact Blk.new' (by simp) rfl
  have h3 : CBlk (((w.alloc (.cells (ccells bs).toArray 30)).alloc (.cells #[.int .i8 x, .int .i8 y] 44)).alloc (.cells #[.int .u8 0, .int .i16 0, .int .u8 0, .int .i16 0, .int .u8 0, .int .i16 0, .int .u8 0, .int .i16 0, .int .u8 0, .int .i16 0, .int .u8 0, .int .i16 0, .int .u8 0, .int .i16 0, .int .u8 0, .int .i16 0, .int .u8 0, .int .i16 0, .int .u8 0, .int .i16 0, .int .u8 0, .int .i16 0, .int .u8 0, .int .i16 0] 30)) (w.heap.size + 1 + 1) 30 noB := CBlk.new' (by simp) rfl
  have hb : Below w.heap.size w (((w.alloc (.cells (ccells bs).toArray 30)).alloc (.cells #[.int .i8 x, .int .i8 y] 44)).alloc (.cells #[.int .u8 0, .int .i16 0, .int .u8 0, .int .i16 0, .int .u8 0, .int .i16 0, .int .u8 0, .int .i16 0, .int .u8 0, .int .i16 0, .int .u8 0, .int .i16 0, .int .u8 0, .int .i16 0, .int .u8 0, .int .i16 0, .int .u8 0, .int .i16 0, .int .u8 0, .int .i16 0, .int .u8 0, .int .i16 0, .int .u8 0, .int .i16 0] 30)) := (by repeat (first | exact Below.refl _ _ | refine Below.drew ?_ | refine Below.alloc ?_ (by simp <;> omega) _ | refine Below.setCell ?_ (by simp <;> omega) _))
  obtain ⟨W1, hW1⟩ : ∃ W1, (((w.alloc (.cells (ccells bs).toArray 30)).alloc (.cells #[.int .i8 x, .int .i8 y] 44)).alloc (.cells #[.int .u8 0, .int .i16 0, .int .u8 0, .int .i16 0, .int .u8 0, .int .i16 0, .int .u8 0, .int .i16 0, .int .u8 0, .int .i16 0, .int .u8 0, .int .i16 0, .int .u8 0, .int .i16 0, .int .u8 0, .int .i16 0, .int .u8 0, .int .i16 0, .int .u8 0, .int .i16 0, .int .u8 0, .int .i16 0, .int .u8 0, .int .i16 0] 30)) = W1 := ⟨_, rfl⟩
  rw [hW1] at h1 h2 h3 hb
  have H1 := Lib.hid h1
  have H2 := Lib.hid h2
  have H3 := Lib.hid h3
  have HB := Lib.hid hb
  have HE := Lib.hid hE
  have e3 : W1.cell? ⟨w.heap.size + 1, 0, none⟩ = some (.int .i8 x) := h2.cell 0
  have e4 : W1.cell? ⟨w.heap.size + 1, 1, none⟩ = some (.int .i8 y) := h2.cell 1
  clear h1 h2 h3 hb hwf hs hE
  go_enter Tryd.func28, Tryd.ntmps28
  go_wp2_with (refine wpList_load_row rfl 30 (.tmp 2) rfl w.heap.size rfl 30 _ (0, 0) _ H1.out Tryd.underlying30 rfl (size_of_crate Tryd.sizeCr _ HW.out.1) ?_)
  clear hW1
  refine (checkMove_any bs HW.out x y HS.out ad _ (HE.out.below HB.out (Nat.le_refl _))).mono ?_
  rintro e w2 ⟨rfl, hb2⟩
  have L1 : Hid (CBlk w2 w.heap.size 30 bs) := H1.out.below hb2 H1.out.lt
  have L2 : Hid (Blk w2 (w.heap.size + 1) 44 #[.int .i8 x, .int .i8 y]) := H2.out.below hb2 H2.out.lt
  have L3 : Hid (CBlk w2 (w.heap.size + 1 + 1) 30 noB) := H3.out.below hb2 H3.out.lt
  have LB : Hid (Below w.heap.size w w2) := HB.out.trans (hb2.mono HB.out.size)
  clear hb2 H1 H2 H3 HB e3 e4
  by_cases h0 : mvC bs (x, y) = 0
  · have hm := mvR_of h0
    obtain ⟨i, j, hij, hi, hj⟩ := canS_nat (mvC_zero h0)
    obtain ⟨rfl, rfl⟩ : x = i ∧ y = j := by simpa using hij
    have HM := Lib.hid hm
    have H0 := Lib.hid h0
    rw [h0, show mvE ad 0 = .nilIface from rfl]
    clear hij hm h0
    have e3 : w2.cell? ⟨w.heap.size + 1, 0, none⟩ = some (.int .i8 (i : Int)) := L2.out.cell 0
    have e4 : w2.cell? ⟨w.heap.size + 1, 1, none⟩ = some (.int .i8 (j : Int)) := L2.out.cell 1
    go_wp2_with (refine wpList_load_row rfl 30 (.tmp 2) rfl w.heap.size rfl 30 _ (0, 0) _ L1.out Tryd.underlying30 rfl (size_of_crate Tryd.sizeCr _ HW.out.1) ?_)
    refine (swapped_any bs HW.out i j hi hj _).mono ?_
    rintro e w3 ⟨rfl, hb3⟩
    have P3 : Hid (CBlk w3 (w.heap.size + 1 + 1) 30 noB) := L3.out.below hb3 L3.out.lt
    have PB : Hid (Below w.heap.size w w3) := LB.out.trans (hb3.mono LB.out.size)
    have QL := Lib.hid (mvR_wf HW.out ((i : Int), (j : Int))).1
    clear hb3 L1 L2 L3 LB e3 e4
    rw [← HM.out]
    obtain ⟨Z, hZ⟩ : ∃ Z, mvR bs ((i : Int), (j : Int)) = Z := ⟨_, rfl⟩
    rw [hZ] at QL ⊢
    have HZ := Lib.hid hZ
    clear hZ HM
    go_wp2_with (first
      | (refine wpList_store_row rfl 30 (.tmp 4) (.tmp 9) rfl (w.heap.size + 1 + 1) _ rfl rfl 30 _ P3.out (size_of_crate Tryd.sizeCr _ QL.out) (by rw [ccells_size _ QL.out]; rfl) (ccells_one _) ?_)
      | (refine wpList_store_row rfl 30 (.tmp 4) (.tmp 10) rfl (w.heap.size + 1 + 1) _ rfl rfl 30 _ P3.out (size_of_crate Tryd.sizeCr _ QL.out) (by rw [ccells_size _ QL.out]; rfl) (ccells_one _) ?_)
      | (refine wpList_store_row rfl 30 (.tmp 4) (.tmp 11) rfl (w.heap.size + 1 + 1) _ rfl rfl 30 _ P3.out (size_of_crate Tryd.sizeCr _ QL.out) (by rw [ccells_size _ QL.out]; rfl) (ccells_one _) ?_)
      | (refine wpList_store_row rfl 30 (.tmp 4) (.tmp 12) rfl (w.heap.size + 1 + 1) _ rfl rfl 30 _ P3.out (size_of_crate Tryd.sizeCr _ QL.out) (by rw [ccells_size _ QL.out]; rfl) (ccells_one _) ?_)
      | (refine wpList_store_row rfl 30 (.tmp 4) (.tmp 13) rfl (w.heap.size + 1 + 1) _ rfl rfl 30 _ P3.out (size_of_crate Tryd.sizeCr _ QL.out) (by rw [ccells_size _ QL.out]; rfl) (ccells_one _) ?_)
      | (refine wpList_store_row rfl 30 (.tmp 4) (.tmp 14) rfl (w.heap.size + 1 + 1) _ rfl rfl 30 _ P3.out (size_of_crate Tryd.sizeCr _ QL.out) (by rw [ccells_size _ QL.out]; rfl) (ccells_one _) ?_)
      | (refine wpList_store_row rfl 30 (.tmp 4) (.tmp 15) rfl (w.heap.size + 1 + 1) _ rfl rfl 30 _ P3.out (size_of_crate Tryd.sizeCr _ QL.out) (by rw [ccells_size _ QL.out]; rfl) (ccells_one _) ?_)
      | (refine wpList_store_row rfl 30 (.tmp 4) (.tmp 16) rfl (w.heap.size + 1 + 1) _ rfl rfl 30 _ P3.out (size_of_crate Tryd.sizeCr _ QL.out) (by rw [ccells_size _ QL.out]; rfl) (ccells_one _) ?_))
    exact bodyPost_ret (v := .agg (ccells Z).toArray) (results_cell_row rfl _ _ _ 30 _ (0, 0) _ rfl (CBlk.setRow (Y := Z) P3.out) Tryd.underlying30 rfl (size_of_crate Tryd.sizeCr _ QL.out)) rfl ⟨by first | rw [if_pos H0.out, HZ.out] | rw [HZ.out], Below.setRow PB.out _ _ (by omega)⟩
  · obtain ⟨k, hk⟩ := mvE_ne ad h0
    have H0 := Lib.hid h0
    have HK := Lib.hid hk
    rw [hk]
    clear h0 hk
    go_wp2_with fail
    exact ⟨rfl, by first | rw [if_neg H0.out, badV, HK.out] | rw [badV, HK.out], LB.out⟩

end Go.Proofs.YtaigimdehlclfaaDoor
