/-
  The contract of the model's TakeBottle where a bottle is taken.
-/
import Derived.Test.YtjiihdljchaeiadDoorWs
namespace Go.Proofs.YtjiihdljchaeiadDoor
open Go.ChangeShapes Go.WideShapes Go.ChangeAt Go.RowKit Go.Deep

set_option maxRecDepth 100000 in
set_option maxHeartbeats 1000000 in
theorem specTake_some (bs : List Bot) (hwf : WfC bs) (k : Nat) (hk : k < 12) (x y : Int) (hbk : bs[k]? = some (x, y)) (hok : okC bs = true) (hE : eB (x, y) = false) (w : World) : Calls Tryd.prog 12 #[.agg (ccells bs).toArray, .int .i64 (k : Int)] w fun e w' => e = .returned (takeV (bs.set k (0, 0)) (x, y) 0) ∧ Below w.heap.size w w' := by
  have HW := Lib.hid hwf
  clear hwf
  have h1 : CBlk (((w.alloc (.cells (ccells bs).toArray 28)).alloc (.cells #[.int .u8 0, .int .i16 0, .int .u8 0, .int .i16 0, .int .u8 0, .int .i16 0, .int .u8 0, .int .i16 0, .int .u8 0, .int .i16 0, .int .u8 0, .int .i16 0, .int .u8 0, .int .i16 0, .int .u8 0, .int .i16 0, .int .u8 0, .int .i16 0, .int .u8 0, .int .i16 0, .int .u8 0, .int .i16 0, .int .u8 0, .int .i16 0] 28)).alloc (.cells #[.int .u8 0, .int .i16 0] 26)) w.heap.size 28 bs := ((CBlk.new w 28 bs).alloc _).alloc _
  have h2 : CBlk (((w.alloc (.cells (ccells bs).toArray 28)).alloc (.cells #[.int .u8 0, .int .i16 0, .int .u8 0, .int .i16 0, .int .u8 0, .int .i16 0, .int .u8 0, .int .i16 0, .int .u8 0, .int .i16 0, .int .u8 0, .int .i16 0, .int .u8 0, .int .i16 0, .int .u8 0, .int .i16 0, .int .u8 0, .int .i16 0, .int .u8 0, .int .i16 0, .int .u8 0, .int .i16 0, .int .u8 0, .int .i16 0] 28)).alloc (.cells #[.int .u8 0, .int .i16 0] 26)) (w.heap.size + 1) 28 noB := by
    refine CBlk.alloc ?_ _
    exact CBlk.new' (by simp) rfl
  have h3 : CBlk (((w.alloc (.cells (ccells bs).toArray 28)).alloc (.cells #[.int .u8 0, .int .i16 0, .int .u8 0, .int .i16 0, .int .u8 0, .int .i16 0, .int .u8 0, .int .i16 0, .int .u8 0, .int .i16 0, .int .u8 0, .int .i16 0, .int .u8 0, .int .i16 0, .int .u8 0, .int .i16 0, .int .u8 0, .int .i16 0, .int .u8 0, .int .i16 0, .int .u8 0, .int .i16 0, .int .u8 0, .int .i16 0] 28)).alloc (.cells #[.int .u8 0, .int .i16 0] 26)) (w.heap.size + 1 + 1) 26 [(0, 0)] := CBlk.new' (by simp) rfl
  have h4 : Below w.heap.size w (((w.alloc (.cells (ccells bs).toArray 28)).alloc (.cells #[.int .u8 0, .int .i16 0, .int .u8 0, .int .i16 0, .int .u8 0, .int .i16 0, .int .u8 0, .int .i16 0, .int .u8 0, .int .i16 0, .int .u8 0, .int .i16 0, .int .u8 0, .int .i16 0, .int .u8 0, .int .i16 0, .int .u8 0, .int .i16 0, .int .u8 0, .int .i16 0, .int .u8 0, .int .i16 0, .int .u8 0, .int .i16 0] 28)).alloc (.cells #[.int .u8 0, .int .i16 0] 26)) := (by repeat (first | exact Below.refl _ _ | refine Below.drew ?_ | refine Below.alloc ?_ (by simp <;> omega) _ | refine Below.setCell ?_ (by simp <;> omega) _))
  have H1 := Lib.hid h1
  have H2 := Lib.hid h2
  have H3 := Lib.hid h3
  have H4 := Lib.hid h4
  clear h1 h2 h3 h4
  go_enter Tryd.func12, Tryd.ntmps12
  go_wp2_with fail
  refine (l01Ok_any bs HW.out _ _ H1.out).mono ?_
  rintro e w1 ⟨rfl, hb1⟩
  have HB1 : Hid (Below w.heap.size w w1) := H4.out.trans (hb1.mono H4.out.size)
  have K1 : Hid (CBlk w1 w.heap.size 28 bs) := H1.out.below hb1 H1.out.lt
  have K2 : Hid (CBlk w1 (w.heap.size + 1) 28 noB) := H2.out.below hb1 H2.out.lt
  have K3 : Hid (CBlk w1 (w.heap.size + 1 + 1) 26 [(0, 0)]) := H3.out.below hb1 H3.out.lt
  have K4 : Hid (CBlk (w1.setRow (w.heap.size + 1) (ccells noB).toArray) (w.heap.size + 1 + 1) 26 [(0, 0)]) := K3.out.rowOff (by omega) _
  clear hb1 H1 H2 H3 H4
  rw [hok]
  have Hk := Lib.hid hbk
  have e1 := K1.out.kind' hbk
  have e2 := K1.out.year' hbk
  have hl0 : (0 : Int) ≤ k := by omega
  have hl1 : (k : Int) ≤ 11 := by omega
  have hl2 : (k : Int) < 12 := by omega
  clear hbk
  go_wp2_with (first
    | (go_at_call 21; go_in)
    | (go_at_call 33; go_in))
  refine (l01Free_any _ _ _).mono ?_
  rintro e w2 ⟨rfl, hb2⟩
  have q1 : Below w1.heap.size w1 (w1.alloc (.cells #[.int .u8 x, .int .i16 y] 26)) := (Below.refl _ w1).alloc (Nat.le_refl _) _
  have q2 := q1.trans (hb2.mono (by simp))
  have HB2 : Hid (Below w.heap.size w w2) := HB1.out.trans (q2.mono HB1.out.size)
  have L1 : Hid (CBlk w2 w.heap.size 28 bs) := K1.out.below q2 K1.out.lt
  have L2 : Hid (CBlk w2 (w.heap.size + 1) 28 noB) := K2.out.below q2 K2.out.lt
  have L3 : Hid (CBlk w2 (w.heap.size + 1 + 1) 26 [(0, 0)]) := K3.out.below q2 K3.out.lt
  have L7 : Hid (CBlk w2 w1.heap.size 26 [(x, y)]) := (show CBlk (w1.alloc (.cells #[.int .u8 x, .int .i16 y] 26)) w1.heap.size 26 [(x, y)] from CBlk.new' rfl rfl).below hb2 (by simp)
  have L8 : Hid (w.heap.size + 1 + 1 < w1.heap.size) := K3.out.lt
  clear hb2 q1 q2 e1 e2 K1 K2 K3 K4
  rw [hE]
  have e1 := L1.out.kind' Hk.out
  have e2 := L1.out.year' Hk.out
  have f1 := L1.out.frozen (k * 2)
  have f2 := L1.out.frozen (k * 2 + 1)
  have M0 : Hid (CBlk ((w2.setCell ⟨w.heap.size, k * 2, none⟩ (.int .u8 0)).setCell ⟨w.heap.size, k * 2 + 1, none⟩ (.int .i16 0)) w.heap.size 28 (bs.set k (0, 0))) := CBlk.set L1.out k (by rw [HW.out.1]; exact hk) (0, 0)
  have M2 : Hid (CBlk ((w2.setCell ⟨w.heap.size, k * 2, none⟩ (.int .u8 0)).setCell ⟨w.heap.size, k * 2 + 1, none⟩ (.int .i16 0)) (w.heap.size + 1) 28 noB) := (L2.out.other (by omega) _ _).other (by omega) _ _
  have M3 : Hid (CBlk ((w2.setCell ⟨w.heap.size, k * 2, none⟩ (.int .u8 0)).setCell ⟨w.heap.size, k * 2 + 1, none⟩ (.int .i16 0)) (w.heap.size + 1 + 1) 26 [(0, 0)]) := (L3.out.other (by omega) _ _).other (by omega) _ _
  have M7 : Hid (CBlk ((w2.setCell ⟨w.heap.size, k * 2, none⟩ (.int .u8 0)).setCell ⟨w.heap.size, k * 2 + 1, none⟩ (.int .i16 0)) w1.heap.size 26 [(x, y)]) := (L7.out.other (by have := L8.out; omega) _ _).other (by have := L8.out; omega) _ _
  have MB : Hid (Below w.heap.size w ((w2.setCell ⟨w.heap.size, k * 2, none⟩ (.int .u8 0)).setCell ⟨w.heap.size, k * 2 + 1, none⟩ (.int .i16 0))) := (HB2.out.setCell (p := ⟨w.heap.size, k * 2, none⟩) (Nat.le_refl _) _).setCell (p := ⟨w.heap.size, k * 2 + 1, none⟩) (Nat.le_refl _) _
  have HY : Hid ((bs.set k (0, 0)).length = 12) := by show (bs.set k (0, 0)).length = 12; rw [List.length_set]; exact HW.out.1
  go_wp2
  obtain ⟨W3, hW3⟩ : ∃ W3, ((w2.setCell ⟨w.heap.size, k * 2, none⟩ (.int .u8 0)).setCell ⟨w.heap.size, k * 2 + 1, none⟩ (.int .i16 0)) = W3 := ⟨_, rfl⟩
  obtain ⟨Y, hY⟩ : ∃ Y, bs.set k (0, 0) = Y := ⟨_, rfl⟩
  rw [hW3] at M0 M2 M3 M7 MB ⊢
  rw [hY] at M0 HY
  have HYe := Lib.hid hY
  clear hW3 hY e1 e2 f1 f2 L1 L2 L3 L7 HB1 HB2
  have N7 : Hid (CBlk (W3.setRow (w.heap.size + 1) (ccells Y).toArray) w1.heap.size 26 [(x, y)]) := M7.out.rowOff (by have := L8.out; omega) _
  have N3 : Hid (CBlk (W3.setRow (w.heap.size + 1) (ccells Y).toArray) (w.heap.size + 1 + 1) 26 [(0, 0)]) := M3.out.rowOff (by omega) _
  refine wp_region_any (by kernel_rfl) ?_
  change wpAny _ _ _ _ _ _ _ (World.drew _)
  rename_i K0 hKK
  have D0 : CBlk W3.drew w.heap.size 28 Y := M0.out
  have D2 : CBlk W3.drew (w.heap.size + 1) 28 noB := M2.out
  have D7 : CBlk W3.drew w1.heap.size 26 [(x, y)] := M7.out
  have E7 : CBlk (W3.drew.setRow (w.heap.size + 1) (ccells Y).toArray) w1.heap.size 26 [(x, y)] := N7.out
  have E3 : CBlk (W3.drew.setRow (w.heap.size + 1) (ccells Y).toArray) (w.heap.size + 1 + 1) 26 [(0, 0)] := N3.out
  refine wpAny_ready (rs := [0, 1]) (by kernel_rfl) (by simp) ?_
  refine AllReady.cons rfl (fun K hK => ?_) ?_
  · refine if_wanted rfl (wp_load_row 28 (.tmp 2) rfl w.heap.size rfl 28 _ (0, 0) _ D0 Tryd.underlying28 rfl (size_of_crate Tryd.sizeCr _ HY.out) ?_)
    refine hK _ _ ?_
    clear hK K
    refine wpAny_ready (rs := [1, 2]) (by kernel_rfl) (by simp) ?_
    refine AllReady.cons rfl (fun K hK => ?_) ?_
    · refine if_wanted rfl (wp_load_row 26 (.tmp 7) rfl w1.heap.size rfl 26 _ (0, 0) _ D7 Tryd.underlying26 rfl (size_of_bot Tryd.sizeBt _) ?_)
      refine hK _ _ ?_
      clear hK K
      refine wpAny_ready (rs := [2]) (by kernel_rfl) (by simp) ?_
      refine AllReady.cons rfl (fun K hK => ?_) AllReady.nil
      refine if_wanted rfl (wp_store_row 28 (.tmp 4) (.tmp 27) rfl (w.heap.size + 1) (ccells Y).toArray rfl rfl 28 _ D2 (size_of_crate Tryd.sizeCr _ HY.out) (by show (ccells noB).toArray.size = _; rw [ccells_size _ HY.out]; rfl) (ccells_one _) ?_)
      refine hK _ _ ?_
      clear hK K
      refine wpAny_ready (rs := [3]) (by kernel_rfl) (by simp) ?_
      refine AllReady.cons rfl (fun K hK => ?_) AllReady.nil
      refine if_wanted rfl (wp_store_row 26 (.tmp 5) (.tmp 28) rfl (w.heap.size + 1 + 1) (ccells [(x, y)]).toArray rfl rfl 26 _ E3 (size_of_bot Tryd.sizeBt _) rfl (ccells_one _) ?_)
      refine hK _ _ ?_
      clear hK K
      refine wpAny_ready (rs := [4]) (by kernel_rfl) (by simp) ?_
      refine AllReady.cons rfl (fun K hK => ?_) AllReady.nil
      refine if_wanted rfl ?_
      refine wp_assign0 rfl rfl ?_
      refine hK _ _ ?_
      clear hK K
      refine wpAny_done (by kernel_rfl) ?_ _
      refine hKK _ _ ?_
      exact wp_ret (bodyPost_ret (v := takeV Y (x, y) 0) (results_cct (v2 := .int .i64 0) rfl _ (by rfl) _ _ _ 28 26 _ _ (0, 0) (0, 0) _ _ rfl rfl ((CBlk.setRow (Y := Y) D2).rowOff (by omega) _) (E3.setRow (Y := [(x, y)])) Tryd.underlying28 rfl (size_of_crate Tryd.sizeCr _ HY.out) Tryd.underlying26 rfl (size_of_bot Tryd.sizeBt _)) rfl ⟨by rw [HYe.out], Below.setRow (Below.setRow (MB.out.drew) _ _ (by omega)) _ _ (by omega)⟩)
    refine AllReady.cons rfl (fun K hK => ?_) AllReady.nil
    · refine if_wanted rfl (wp_store_row 28 (.tmp 4) (.tmp 27) rfl (w.heap.size + 1) (ccells Y).toArray rfl rfl 28 _ D2 (size_of_crate Tryd.sizeCr _ HY.out) (by show (ccells noB).toArray.size = _; rw [ccells_size _ HY.out]; rfl) (ccells_one _) ?_)
      refine hK _ _ ?_
      clear hK K
      refine wpAny_ready (rs := [1]) (by kernel_rfl) (by simp) ?_
      refine AllReady.cons rfl (fun K hK => ?_) AllReady.nil
      refine if_wanted rfl (wp_load_row 26 (.tmp 7) rfl w1.heap.size rfl 26 _ (0, 0) _ E7 Tryd.underlying26 rfl (size_of_bot Tryd.sizeBt _) ?_)
      refine hK _ _ ?_
      clear hK K
      refine wpAny_ready (rs := [3]) (by kernel_rfl) (by simp) ?_
      refine AllReady.cons rfl (fun K hK => ?_) AllReady.nil
      refine if_wanted rfl (wp_store_row 26 (.tmp 5) (.tmp 28) rfl (w.heap.size + 1 + 1) (ccells [(x, y)]).toArray rfl rfl 26 _ E3 (size_of_bot Tryd.sizeBt _) rfl (ccells_one _) ?_)
      refine hK _ _ ?_
      clear hK K
      refine wpAny_ready (rs := [4]) (by kernel_rfl) (by simp) ?_
      refine AllReady.cons rfl (fun K hK => ?_) AllReady.nil
      refine if_wanted rfl ?_
      refine wp_assign0 rfl rfl ?_
      refine hK _ _ ?_
      clear hK K
      refine wpAny_done (by kernel_rfl) ?_ _
      refine hKK _ _ ?_
      exact wp_ret (bodyPost_ret (v := takeV Y (x, y) 0) (results_cct (v2 := .int .i64 0) rfl _ (by rfl) _ _ _ 28 26 _ _ (0, 0) (0, 0) _ _ rfl rfl ((CBlk.setRow (Y := Y) D2).rowOff (by omega) _) (E3.setRow (Y := [(x, y)])) Tryd.underlying28 rfl (size_of_crate Tryd.sizeCr _ HY.out) Tryd.underlying26 rfl (size_of_bot Tryd.sizeBt _)) rfl ⟨by rw [HYe.out], Below.setRow (Below.setRow (MB.out.drew) _ _ (by omega)) _ _ (by omega)⟩)
  refine AllReady.cons rfl (fun K hK => ?_) AllReady.nil
  · refine if_wanted rfl (wp_load_row 26 (.tmp 7) rfl w1.heap.size rfl 26 _ (0, 0) _ D7 Tryd.underlying26 rfl (size_of_bot Tryd.sizeBt _) ?_)
    refine hK _ _ ?_
    clear hK K
    refine wpAny_ready (rs := [0]) (by kernel_rfl) (by simp) ?_
    refine AllReady.cons rfl (fun K hK => ?_) AllReady.nil
    refine if_wanted rfl (wp_load_row 28 (.tmp 2) rfl w.heap.size rfl 28 _ (0, 0) _ D0 Tryd.underlying28 rfl (size_of_crate Tryd.sizeCr _ HY.out) ?_)
    refine hK _ _ ?_
    clear hK K
    refine wpAny_ready (rs := [2]) (by kernel_rfl) (by simp) ?_
    refine AllReady.cons rfl (fun K hK => ?_) AllReady.nil
    refine if_wanted rfl (wp_store_row 28 (.tmp 4) (.tmp 27) rfl (w.heap.size + 1) (ccells Y).toArray rfl rfl 28 _ D2 (size_of_crate Tryd.sizeCr _ HY.out) (by show (ccells noB).toArray.size = _; rw [ccells_size _ HY.out]; rfl) (ccells_one _) ?_)
    refine hK _ _ ?_
    clear hK K
    refine wpAny_ready (rs := [3]) (by kernel_rfl) (by simp) ?_
    refine AllReady.cons rfl (fun K hK => ?_) AllReady.nil
    refine if_wanted rfl (wp_store_row 26 (.tmp 5) (.tmp 28) rfl (w.heap.size + 1 + 1) (ccells [(x, y)]).toArray rfl rfl 26 _ E3 (size_of_bot Tryd.sizeBt _) rfl (ccells_one _) ?_)
    refine hK _ _ ?_
    clear hK K
    refine wpAny_ready (rs := [4]) (by kernel_rfl) (by simp) ?_
    refine AllReady.cons rfl (fun K hK => ?_) AllReady.nil
    refine if_wanted rfl ?_
    refine wp_assign0 rfl rfl ?_
    refine hK _ _ ?_
    clear hK K
    refine wpAny_done (by kernel_rfl) ?_ _
    refine hKK _ _ ?_
    exact wp_ret (bodyPost_ret (v := takeV Y (x, y) 0) (results_cct (v2 := .int .i64 0) rfl _ (by rfl) _ _ _ 28 26 _ _ (0, 0) (0, 0) _ _ rfl rfl ((CBlk.setRow (Y := Y) D2).rowOff (by omega) _) (E3.setRow (Y := [(x, y)])) Tryd.underlying28 rfl (size_of_crate Tryd.sizeCr _ HY.out) Tryd.underlying26 rfl (size_of_bot Tryd.sizeBt _)) rfl ⟨by rw [HYe.out], Below.setRow (Below.setRow (MB.out.drew) _ _ (by omega)) _ _ (by omega)⟩)
end Go.Proofs.YtjiihdljchaeiadDoor
