/-
  The contract of the model's MoveBottle. Condition: the crate's length, that its numbers and those of the move fit their kinds.
-/
import Derived.Test.YtidfddemcjjgdaaDoorMo
import Derived.Test.YtidfddemcjjgdaaDoorSq
import Derived.Test.YtidfddemcjjgdaaDoorKa
namespace Go.Proofs.YtidfddemcjjgdaaDoor
open Go.ChangeShapes Go.WideShapes Go.ChangeAt Go.RowKit Go.Deep

/-- The code of a move. -/
def mbC (bs : List Bot) (s : Swp) : Int := if okC bs = true then mvC bs s else 1
/-- The crate that MoveBottle answers. -/
def mbL (bs : List Bot) (s : Swp) : List Bot := if mbC bs s = 0 then mvR bs s else noB
theorem mbC_bad {bs : List Bot} (s : Swp) (h : okC bs = false) : mbC bs s = 1 := by simp [mbC, h]
theorem mbC_ok {bs : List Bot} (s : Swp) (h : okC bs = true) : mbC bs s = mvC bs s := by simp [mbC, h]
theorem mbL_no {bs : List Bot} {s : Swp} {c : Int} (h : mbC bs s = c) (hc : c ≠ 0) : mbL bs s = noB := by rw [mbL, if_neg (by rw [h]; exact hc)]
theorem mbL_of {bs : List Bot} {s : Swp} (h : mbC bs s = 0) : mbL bs s = mvR bs s := by rw [mbL, if_pos h]
theorem mbL_wf {bs : List Bot} (h : WfC bs) (s : Swp) : WfC (mbL bs s) := by
  by_cases h0 : mbC bs s = 0
  · rw [mbL_of h0]; exact mvR_wf h s
  · rw [mbL_no rfl h0]; exact wfNo

set_option maxRecDepth 100000 in
set_option maxHeartbeats 2000000 in
theorem specMoveBottle_any (bs : List Bot) (hwf : WfC bs) (x y : Int) (hs : wfS (x, y)) (w : World) : Calls Tryd.prog 32 #[.agg (ccells bs).toArray, .agg #[.int .i8 x, .int .i8 y]] w
    fun e w' => e = .returned (ccV (mbL bs (x, y)) (mbC bs (x, y))) ∧ Below w.heap.size w w' := by
  have HW := Lib.hid hwf
  have HS := Lib.hid hs
  clear hwf hs
  have h1 : CBlk (((w.alloc (.cells (ccells bs).toArray 31)).alloc (.cells #[.int .i8 x, .int .i8 y] 35)).alloc (.cells #[.int .u8 0, .int .i16 0, .int .u8 0, .int .i16 0, .int .u8 0, .int .i16 0, .int .u8 0, .int .i16 0, .int .u8 0, .int .i16 0, .int .u8 0, .int .i16 0, .int .u8 0, .int .i16 0, .int .u8 0, .int .i16 0, .int .u8 0, .int .i16 0, .int .u8 0, .int .i16 0, .int .u8 0, .int .i16 0, .int .u8 0, .int .i16 0] 31)) w.heap.size 31 bs := ((CBlk.new w _ bs).alloc _).alloc _
  have h2 : Blk (((w.alloc (.cells (ccells bs).toArray 31)).alloc (.cells #[.int .i8 x, .int .i8 y] 35)).alloc (.cells #[.int .u8 0, .int .i16 0, .int .u8 0, .int .i16 0, .int .u8 0, .int .i16 0, .int .u8 0, .int .i16 0, .int .u8 0, .int .i16 0, .int .u8 0, .int .i16 0, .int .u8 0, .int .i16 0, .int .u8 0, .int .i16 0, .int .u8 0, .int .i16 0, .int .u8 0, .int .i16 0, .int .u8 0, .int .i16 0, .int .u8 0, .int .i16 0] 31)) (w.heap.size + 1) 35 #[.int .i8 x, .int .i8 y] := by
    refine Blk.alloc ?_ _
    exact Blk.new' (by simp) rfl
  have h3 : CBlk (((w.alloc (.cells (ccells bs).toArray 31)).alloc (.cells #[.int .i8 x, .int .i8 y] 35)).alloc (.cells #[.int .u8 0, .int .i16 0, .int .u8 0, .int .i16 0, .int .u8 0, .int .i16 0, .int .u8 0, .int .i16 0, .int .u8 0, .int .i16 0, .int .u8 0, .int .i16 0, .int .u8 0, .int .i16 0, .int .u8 0, .int .i16 0, .int .u8 0, .int .i16 0, .int .u8 0, .int .i16 0, .int .u8 0, .int .i16 0, .int .u8 0, .int .i16 0] 31)) (w.heap.size + 1 + 1) 31 noB := CBlk.new' (by simp) rfl
  have hb : Below w.heap.size w (((w.alloc (.cells (ccells bs).toArray 31)).alloc (.cells #[.int .i8 x, .int .i8 y] 35)).alloc (.cells #[.int .u8 0, .int .i16 0, .int .u8 0, .int .i16 0, .int .u8 0, .int .i16 0, .int .u8 0, .int .i16 0, .int .u8 0, .int .i16 0, .int .u8 0, .int .i16 0, .int .u8 0, .int .i16 0, .int .u8 0, .int .i16 0, .int .u8 0, .int .i16 0, .int .u8 0, .int .i16 0, .int .u8 0, .int .i16 0, .int .u8 0, .int .i16 0] 31)) := (by repeat (first | exact Below.refl _ _ | refine Below.drew ?_ | refine Below.alloc ?_ (by simp <;> omega) _ | refine Below.setCell ?_ (by simp <;> omega) _))
  obtain ⟨W1, hW1⟩ : ∃ W1, (((w.alloc (.cells (ccells bs).toArray 31)).alloc (.cells #[.int .i8 x, .int .i8 y] 35)).alloc (.cells #[.int .u8 0, .int .i16 0, .int .u8 0, .int .i16 0, .int .u8 0, .int .i16 0, .int .u8 0, .int .i16 0, .int .u8 0, .int .i16 0, .int .u8 0, .int .i16 0, .int .u8 0, .int .i16 0, .int .u8 0, .int .i16 0, .int .u8 0, .int .i16 0, .int .u8 0, .int .i16 0, .int .u8 0, .int .i16 0, .int .u8 0, .int .i16 0] 31)) = W1 := ⟨_, rfl⟩
  rw [hW1] at h1 h2 h3 hb
  have H1 := Lib.hid h1
  have H2 := Lib.hid h2
  have H3 := Lib.hid h3
  have HB := Lib.hid hb
  clear h1 h2 h3 hb
  go_enter Tryd.func32, Tryd.ntmps32
  go_wp2_with fail
  clear hW1
  refine (l01Ok_any bs HW.out _ _ H1.out).mono ?_
  rintro e w1 ⟨rfl, hb1⟩
  have HB1 : Hid (Below w.heap.size w w1) := HB.out.trans (hb1.mono HB.out.size)
  have K1 : Hid (CBlk w1 w.heap.size 31 bs) := H1.out.below hb1 H1.out.lt
  have K2 : Hid (Blk w1 (w.heap.size + 1) 35 #[.int .i8 x, .int .i8 y]) := H2.out.below hb1 H2.out.lt
  have K3 : Hid (CBlk w1 (w.heap.size + 1 + 1) 31 noB) := H3.out.below hb1 H3.out.lt
  clear hb1 H1 H2 H3 HB
  cases hok : okC bs
  · have hc := mbC_bad (x, y) hok
    have hl := mbL_no hc (by decide)
    have HC := Lib.hid hc
    have HN := Lib.hid hl
    clear hc hl hok
    go_wp2_with (first
      | (refine wpList_store_row rfl 31 (.tmp 4) (.tmp 8) rfl (w.heap.size + 1 + 1) (ccells noB).toArray rfl rfl 31 _ K3.out (size_of_crate Tryd.sizeCr _ rfl) rfl (ccells_one _) ?_)
      | (refine wpList_store_row rfl 31 (.tmp 4) (.tmp 9) rfl (w.heap.size + 1 + 1) (ccells noB).toArray rfl rfl 31 _ K3.out (size_of_crate Tryd.sizeCr _ rfl) rfl (ccells_one _) ?_)
      | (refine wpList_store_row rfl 31 (.tmp 4) (.tmp 10) rfl (w.heap.size + 1 + 1) (ccells noB).toArray rfl rfl 31 _ K3.out (size_of_crate Tryd.sizeCr _ rfl) rfl (ccells_one _) ?_)
      | (refine wpList_store_row rfl 31 (.tmp 4) (.tmp 11) rfl (w.heap.size + 1 + 1) (ccells noB).toArray rfl rfl 31 _ K3.out (size_of_crate Tryd.sizeCr _ rfl) rfl (ccells_one _) ?_)
      | (refine wpList_store_row rfl 31 (.tmp 4) (.tmp 12) rfl (w.heap.size + 1 + 1) (ccells noB).toArray rfl rfl 31 _ K3.out (size_of_crate Tryd.sizeCr _ rfl) rfl (ccells_one _) ?_)
      | (refine wpList_store_row rfl 31 (.tmp 4) (.tmp 13) rfl (w.heap.size + 1 + 1) (ccells noB).toArray rfl rfl 31 _ K3.out (size_of_crate Tryd.sizeCr _ rfl) rfl (ccells_one _) ?_)
      | (refine wpList_store_row rfl 31 (.tmp 4) (.tmp 14) rfl (w.heap.size + 1 + 1) (ccells noB).toArray rfl rfl 31 _ K3.out (size_of_crate Tryd.sizeCr _ rfl) rfl (ccells_one _) ?_)
      | (refine wpList_store_row rfl 31 (.tmp 4) (.tmp 15) rfl (w.heap.size + 1 + 1) (ccells noB).toArray rfl rfl 31 _ K3.out (size_of_crate Tryd.sizeCr _ rfl) rfl (ccells_one _) ?_)
      | (refine wpList_store_row rfl 31 (.tmp 4) (.tmp 16) rfl (w.heap.size + 1 + 1) (ccells noB).toArray rfl rfl 31 _ K3.out (size_of_crate Tryd.sizeCr _ rfl) rfl (ccells_one _) ?_))
    exact bodyPost_ret (v := ccV noB 1) (results_ctS (v2 := .int .i64 1) rfl _ (by rfl) _ _ 31 _ (0, 0) _ rfl (K3.out.setRow (Y := noB)) Tryd.underlying31 rfl (size_of_crate Tryd.sizeCr _ rfl)) rfl ⟨by rw [HC.out, HN.out], Below.setRow HB1.out _ _ (by omega)⟩
  · have HC := Lib.hid (mbC_ok (x, y) hok)
    clear hok
    have e3 : w1.cell? ⟨w.heap.size + 1, 0, none⟩ = some (.int .i8 x) := K2.out.cell 0
    have e4 : w1.cell? ⟨w.heap.size + 1, 1, none⟩ = some (.int .i8 y) := K2.out.cell 1
    go_wp2_with fail
    refine (l03Moved_any bs HW.out x y HS.out w.heap.size _ K1.out).mono ?_
    rintro e w2 ⟨rfl, hc2, hg⟩
    have L1 := Lib.hid hc2
    have L3 : Hid (CBlk w2 (w.heap.size + 1 + 1) 31 noB) := K3.out.gb hg (by omega)
    have HB2 : Hid (Below w.heap.size w w2) := HB1.out.grown hg HB1.out.size (fun j hj => by cases hj; exact Nat.le_refl _)
    clear hc2 hg K1 K2 K3 HB1 e3 e4
    by_cases h0 : mvC bs (x, y) = 0
    · have hc : mbC bs (x, y) = 0 := by rw [HC.out, h0]
      have hl := mbL_of hc
      have QL := Lib.hid (mvR_wf HW.out (x, y)).1
      have HC0 := Lib.hid hc
      obtain ⟨Z, hZ⟩ : ∃ Z, mvR bs (x, y) = Z := ⟨_, rfl⟩
      rw [hZ] at QL L1 hl
      have HN := Lib.hid hl
      rw [h0]
      clear h0 hc hl hZ HC
      go_wp2_with (first
        | (refine wpList_load_row rfl 31 (.tmp 2) rfl w.heap.size rfl 31 _ (0, 0) _ L1.out Tryd.underlying31 rfl (size_of_crate Tryd.sizeCr _ QL.out) ?_)
        | (refine wpList_store_row rfl 31 (.tmp 4) (.tmp 8) rfl (w.heap.size + 1 + 1) _ rfl rfl 31 _ L3.out (size_of_crate Tryd.sizeCr _ QL.out) (by rw [ccells_size _ QL.out]; rfl) (ccells_one _) ?_)
        | (refine wpList_store_row rfl 31 (.tmp 4) (.tmp 9) rfl (w.heap.size + 1 + 1) _ rfl rfl 31 _ L3.out (size_of_crate Tryd.sizeCr _ QL.out) (by rw [ccells_size _ QL.out]; rfl) (ccells_one _) ?_)
        | (refine wpList_store_row rfl 31 (.tmp 4) (.tmp 10) rfl (w.heap.size + 1 + 1) _ rfl rfl 31 _ L3.out (size_of_crate Tryd.sizeCr _ QL.out) (by rw [ccells_size _ QL.out]; rfl) (ccells_one _) ?_)
        | (refine wpList_store_row rfl 31 (.tmp 4) (.tmp 11) rfl (w.heap.size + 1 + 1) _ rfl rfl 31 _ L3.out (size_of_crate Tryd.sizeCr _ QL.out) (by rw [ccells_size _ QL.out]; rfl) (ccells_one _) ?_)
        | (refine wpList_store_row rfl 31 (.tmp 4) (.tmp 12) rfl (w.heap.size + 1 + 1) _ rfl rfl 31 _ L3.out (size_of_crate Tryd.sizeCr _ QL.out) (by rw [ccells_size _ QL.out]; rfl) (ccells_one _) ?_)
        | (refine wpList_store_row rfl 31 (.tmp 4) (.tmp 13) rfl (w.heap.size + 1 + 1) _ rfl rfl 31 _ L3.out (size_of_crate Tryd.sizeCr _ QL.out) (by rw [ccells_size _ QL.out]; rfl) (ccells_one _) ?_)
        | (refine wpList_store_row rfl 31 (.tmp 4) (.tmp 14) rfl (w.heap.size + 1 + 1) _ rfl rfl 31 _ L3.out (size_of_crate Tryd.sizeCr _ QL.out) (by rw [ccells_size _ QL.out]; rfl) (ccells_one _) ?_)
        | (refine wpList_store_row rfl 31 (.tmp 4) (.tmp 15) rfl (w.heap.size + 1 + 1) _ rfl rfl 31 _ L3.out (size_of_crate Tryd.sizeCr _ QL.out) (by rw [ccells_size _ QL.out]; rfl) (ccells_one _) ?_)
        | (refine wpList_store_row rfl 31 (.tmp 4) (.tmp 16) rfl (w.heap.size + 1 + 1) _ rfl rfl 31 _ L3.out (size_of_crate Tryd.sizeCr _ QL.out) (by rw [ccells_size _ QL.out]; rfl) (ccells_one _) ?_))
      exact bodyPost_ret (v := ccV Z 0) (results_ctS (v2 := .int .i64 0) rfl _ (by rfl) _ _ 31 _ (0, 0) _ rfl (L3.out.setRow (Y := Z)) Tryd.underlying31 rfl (size_of_crate Tryd.sizeCr _ QL.out)) rfl ⟨by rw [HC0.out, HN.out], Below.setRow HB2.out _ _ (by omega)⟩
    · have hl := mbL_no HC.out h0
      have HN := Lib.hid hl
      have HC0 := Lib.hid HC.out
      obtain ⟨cd, hcd⟩ : ∃ cd, mvC bs (x, y) = cd := ⟨_, rfl⟩
      rw [hcd] at h0 HC0 ⊢
      clear HC hcd hl
      have h1 : (cd != 0) = true := by simpa using h0
      go_wp2_with (first
        | (refine wpList_store_row rfl 31 (.tmp 4) (.tmp 8) rfl (w.heap.size + 1 + 1) (ccells noB).toArray rfl rfl 31 _ L3.out (size_of_crate Tryd.sizeCr _ rfl) rfl (ccells_one _) ?_)
        | (refine wpList_store_row rfl 31 (.tmp 4) (.tmp 9) rfl (w.heap.size + 1 + 1) (ccells noB).toArray rfl rfl 31 _ L3.out (size_of_crate Tryd.sizeCr _ rfl) rfl (ccells_one _) ?_)
        | (refine wpList_store_row rfl 31 (.tmp 4) (.tmp 10) rfl (w.heap.size + 1 + 1) (ccells noB).toArray rfl rfl 31 _ L3.out (size_of_crate Tryd.sizeCr _ rfl) rfl (ccells_one _) ?_)
        | (refine wpList_store_row rfl 31 (.tmp 4) (.tmp 11) rfl (w.heap.size + 1 + 1) (ccells noB).toArray rfl rfl 31 _ L3.out (size_of_crate Tryd.sizeCr _ rfl) rfl (ccells_one _) ?_)
        | (refine wpList_store_row rfl 31 (.tmp 4) (.tmp 12) rfl (w.heap.size + 1 + 1) (ccells noB).toArray rfl rfl 31 _ L3.out (size_of_crate Tryd.sizeCr _ rfl) rfl (ccells_one _) ?_)
        | (refine wpList_store_row rfl 31 (.tmp 4) (.tmp 13) rfl (w.heap.size + 1 + 1) (ccells noB).toArray rfl rfl 31 _ L3.out (size_of_crate Tryd.sizeCr _ rfl) rfl (ccells_one _) ?_)
        | (refine wpList_store_row rfl 31 (.tmp 4) (.tmp 14) rfl (w.heap.size + 1 + 1) (ccells noB).toArray rfl rfl 31 _ L3.out (size_of_crate Tryd.sizeCr _ rfl) rfl (ccells_one _) ?_)
        | (refine wpList_store_row rfl 31 (.tmp 4) (.tmp 15) rfl (w.heap.size + 1 + 1) (ccells noB).toArray rfl rfl 31 _ L3.out (size_of_crate Tryd.sizeCr _ rfl) rfl (ccells_one _) ?_)
        | (refine wpList_store_row rfl 31 (.tmp 4) (.tmp 16) rfl (w.heap.size + 1 + 1) (ccells noB).toArray rfl rfl 31 _ L3.out (size_of_crate Tryd.sizeCr _ rfl) rfl (ccells_one _) ?_))
      exact bodyPost_ret (v := ccV noB cd) (results_ctS (v2 := .int .i64 cd) rfl _ (by rfl) _ _ 31 _ (0, 0) _ rfl (L3.out.setRow (Y := noB)) Tryd.underlying31 rfl (size_of_crate Tryd.sizeCr _ rfl)) rfl ⟨by rw [HC0.out, HN.out], Below.setRow HB2.out _ _ (by omega)⟩
end Go.Proofs.YtidfddemcjjgdaaDoor
