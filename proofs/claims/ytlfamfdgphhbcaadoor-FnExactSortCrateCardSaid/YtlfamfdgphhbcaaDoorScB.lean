/-
  SortCrate: the model's contract. Condition: the bottles' numbers fit their kinds.
-/
import Derived.Test.YtlfamfdgphhbcaaDoorScA
namespace Go.Proofs.YtlfamfdgphhbcaaDoor
open Go.ChangeShapes Go.WideShapes Go.ChangeAt Go.RowKit Go.Deep

set_option maxRecDepth 100000 in
set_option maxHeartbeats 2000000 in
theorem specSortC_any (bs : List Bot) (hwf : WfC bs) (w : World) : Calls Tryd.prog 10 #[.agg (ccells bs).toArray] w fun e w' => e = .returned (srtV bs (okC bs)) ∧ Below w.heap.size w w' := by
  have HW := Lib.hid hwf
  clear hwf
  have h0 : Below w.heap.size w (w.alloc (.cells (ccells bs).toArray 36)) := (Below.refl _ w).alloc (Nat.le_refl _) _
  have h1 := (CBlk.new w 36 bs).alloc (.cells #[.int .u8 0, .int .i16 0, .int .u8 0, .int .i16 0, .int .u8 0, .int .i16 0, .int .u8 0, .int .i16 0, .int .u8 0, .int .i16 0, .int .u8 0, .int .i16 0, .int .u8 0, .int .i16 0, .int .u8 0, .int .i16 0, .int .u8 0, .int .i16 0, .int .u8 0, .int .i16 0, .int .u8 0, .int .i16 0, .int .u8 0, .int .i16 0] 36)
  have h2 : CBlk ((w.alloc (.cells (ccells bs).toArray 36)).alloc (.cells #[.int .u8 0, .int .i16 0, .int .u8 0, .int .i16 0, .int .u8 0, .int .i16 0, .int .u8 0, .int .i16 0, .int .u8 0, .int .i16 0, .int .u8 0, .int .i16 0, .int .u8 0, .int .i16 0, .int .u8 0, .int .i16 0, .int .u8 0, .int .i16 0, .int .u8 0, .int .i16 0, .int .u8 0, .int .i16 0, .int .u8 0, .int .i16 0] 36)) (w.heap.size + 1) 36 noB := CBlk.new' (by simp) rfl
  have h3 : Below w.heap.size w ((w.alloc (.cells (ccells bs).toArray 36)).alloc (.cells #[.int .u8 0, .int .i16 0, .int .u8 0, .int .i16 0, .int .u8 0, .int .i16 0, .int .u8 0, .int .i16 0, .int .u8 0, .int .i16 0, .int .u8 0, .int .i16 0, .int .u8 0, .int .i16 0, .int .u8 0, .int .i16 0, .int .u8 0, .int .i16 0, .int .u8 0, .int .i16 0, .int .u8 0, .int .i16 0, .int .u8 0, .int .i16 0] 36)) := h0.alloc h0.size _
  clear h0
  have H1 := Lib.hid h1
  have H2 := Lib.hid h2
  have H3 := Lib.hid h3
  clear h1 h2 h3
  go_enter Tryd.func10, Tryd.ntmps10
  go_wp2_with fail
  refine (l01Ok_any bs HW.out _ _ H1.out).mono ?_
  rintro e w1 ⟨rfl, hb1⟩
  have HB1 : Hid (Below w.heap.size w w1) := H3.out.trans (hb1.mono H3.out.size)
  have K1 : Hid (CBlk w1 w.heap.size 36 bs) := H1.out.below hb1 H1.out.lt
  have K2 : Hid (CBlk w1 (w.heap.size + 1) 36 noB) := H2.out.below hb1 H2.out.lt
  clear hb1 H1 H2 H3
  cases hv : okC bs
  · have Hv := Lib.hid hv
    clear hv
    go_wp2_with (refine wpList_store_row rfl 36 (.tmp 2) (.tmp 9) rfl (w.heap.size + 1) (ccells noB).toArray rfl rfl 36 _ K2.out (size_of_crate Tryd.sizeCr _ rfl) rfl (ccells_one _) ?_)
    exact bodyPost_ret (v := .tuple #[.agg (ccells noB).toArray, .int .i64 1]) (results_cell_tmp (v2 := .int .i64 1) rfl _ (by rfl) _ _ 36 _ (0, 0) _ rfl (K2.out.setRow (Y := noB)) Tryd.underlying36 rfl (size_of_crate Tryd.sizeCr _ rfl)) rfl ⟨by rw [Hv.out]; rfl, Below.setRow HB1.out _ _ (by omega)⟩
  · have Hv := Lib.hid hv
    clear hv
    go_wp2_with fail
    refine (l01All_any bs HW.out _ _ K1.out).mono ?_
    rintro e w2 ⟨v, rfl, hO, hb⟩
    have HB2 : Hid (Below w.heap.size w w2) := HB1.out.trans (hb.mono HB1.out.size)
    have L2 : Hid (CBlk w2 (w.heap.size + 1) 36 noB) := K2.out.below hb K2.out.lt
    obtain ⟨Al, cl, rfl, -, -⟩ := own_rd (cells := bcells) bcells_length hO
    have hrd := own_rd2 (cells := bcells) bcells_length hO
    have HSo := l01Sorted_any (allB bs 12) (fun b h => mem_allB HW.out h) (Nat.le_trans (allB_length bs 12) (by omega)) Al cl w2 (fun h => by
        subst h
        rcases hO.2 with ⟨h1, h2⟩ | ⟨g, cap, cur, h1, -⟩
        · exact ⟨h2, (Value.slice.inj h1).2.2⟩
        · cases (Value.slice.inj h1).1) (fun ad had j u hu => by
        subst had
        have hpos : 0 < (allB bs 12).length := by
          rcases Nat.eq_zero_or_pos (allB bs 12).length with h | h
          · rw [List.eq_nil_of_length_eq_zero h] at hu; simp [ccells] at hu
          · exact h
        obtain ⟨b, o, e, -, hr⟩ := hrd hpos
        obtain rfl := Option.some.inj e
        rw [show (⟨b, o, none⟩ : Addr).add j = ⟨b, o + j, none⟩ from Addr.add_mid b o j]
        exact hr j u hu) (fun ad had => by
        subst had
        rcases hO.2 with ⟨h1, h2⟩ | ⟨g, cap, cur, h1, h2, h3, -⟩
        · cases (Value.slice.inj h1).1
        · obtain rfl := Option.some.inj (Value.slice.inj h1).1
          exact (Array.getElem?_eq_some_iff.1 h3).1)
    have HSo := Lib.hid HSo
    clear hO hrd hb K1 K2 HB1
    go_wp2_with fail
    refine HSo.out.mono ?_
    rintro e w3 ⟨g, cap, Y, rfl, hp, hs, hg, hOB, hb⟩
    obtain rfl := srtL_is hp hs
    have HB3 : Hid (Below w.heap.size w w3) := HB2.out.trans (hb.mono HB2.out.size)
    have L3 : Hid (CBlk w3 (w.heap.size + 1) 36 noB) := L2.out.below hb L2.out.lt
    have HOB := Lib.hid hOB
    clear hp hs hOB hb L2 HSo HB2 hg
    have HLe := Lib.hid (srtL_le bs)
    obtain ⟨Z, hZ⟩ : ∃ Z, srtL bs = Z := ⟨_, rfl⟩
    have HZ := Lib.hid hZ
    rw [hZ] at HOB HLe ⊢
    clear hZ
    have G0 : Hid (CBlk (w3.alloc (.cells #[.int .u8 0, .int .i16 0, .int .u8 0, .int .i16 0, .int .u8 0, .int .i16 0, .int .u8 0, .int .i16 0, .int .u8 0, .int .i16 0, .int .u8 0, .int .i16 0, .int .u8 0, .int .i16 0, .int .u8 0, .int .i16 0, .int .u8 0, .int .i16 0, .int .u8 0, .int .i16 0, .int .u8 0, .int .i16 0, .int .u8 0, .int .i16 0] 36)) w3.heap.size 36 noB) := CBlk.new' rfl rfl
    obtain ⟨W4, hW4⟩ : ∃ W, (w3.alloc (.cells #[.int .u8 0, .int .i16 0, .int .u8 0, .int .i16 0, .int .u8 0, .int .i16 0, .int .u8 0, .int .i16 0, .int .u8 0, .int .i16 0, .int .u8 0, .int .i16 0, .int .u8 0, .int .i16 0, .int .u8 0, .int .i16 0, .int .u8 0, .int .i16 0, .int .u8 0, .int .i16 0, .int .u8 0, .int .i16 0, .int .u8 0, .int .i16 0] 36)).setRow w3.heap.size (ccells noB).toArray = W := ⟨_, rfl⟩
    have G1 : Hid (CBlk W4 w3.heap.size 36 noB) := by show CBlk _ _ _ _; rw [← hW4]; exact G0.out.setRow
    have G2 : Hid (CBlk W4 (w.heap.size + 1) 36 noB) := by show CBlk _ _ _ _; rw [← hW4]; exact (L3.out.alloc _).rowOther (by have := L3.out.lt; omega) _
    have G3 : Hid (Below w.heap.size w W4) := by show Below _ _ _; rw [← hW4]; exact Below.setRow (HB3.out.alloc HB3.out.size _) _ _ HB3.out.size
    have G4 : Hid (OB W4 g Z cap) := by
      show OB _ _ _ _; rw [← hW4]
      have h1 : OB (w3.alloc (.cells #[.int .u8 0, .int .i16 0, .int .u8 0, .int .i16 0, .int .u8 0, .int .i16 0, .int .u8 0, .int .i16 0, .int .u8 0, .int .i16 0, .int .u8 0, .int .i16 0, .int .u8 0, .int .i16 0, .int .u8 0, .int .i16 0, .int .u8 0, .int .i16 0, .int .u8 0, .int .i16 0, .int .u8 0, .int .i16 0, .int .u8 0, .int .i16 0] 36)) g Z cap := HOB.out.keep ((Below.refl _ _).alloc (Nat.le_refl _) _)
      exact h1.below (Below.setRow (Below.refl w3.heap.size _) _ _ (Nat.le_refl _)) HOB.out.lt
    have G5 : Hid (w.heap.size + 1 < w3.heap.size) := L3.out.lt
    have G6 : Hid (g < w3.heap.size) := HOB.out.lt
    have hz12 : (Z.length : Int) ≤ 12 := by have := HLe.out; omega
    go_wp2_with (refine wpList_store_row rfl 36 (.tmp 5) (.tmp 12) rfl w3.heap.size (ccells noB).toArray rfl rfl 36 _ G0.out (size_of_crate Tryd.sizeCr _ rfl) rfl (ccells_one _) ?_)
    clear hW4 G0 HOB L3
    go_loopw [6] (fun i wr => ∃ (k : Nat), k ≤ Z.length ∧ i = .int .i64 k ∧ CBlk wr w3.heap.size 36 (srtO Z k) ∧ CBlk wr (w.heap.size + 1) 36 noB ∧ OB wr g Z cap ∧ Below w.heap.size w wr) (fun i _ => Z.length - (intOf i).toNat)
    case atStart => exact ⟨0, by omega, rfl, by rw [srtO_zero]; exact G1.out, G2.out, G4.out, G3.out⟩
    case round =>
      clear G1 G2 G3 G4
      obtain ⟨k, hk, rfl, h1, h2, h3, h4⟩ := hrel
      have G1 := Lib.hid h1
      have G2 := Lib.hid h2
      have G3 := Lib.hid h3
      have G4 := Lib.hid h4
      clear h1 h2 h3 h4
      have hk0 : (0 : Int) ≤ (k : Int) := Int.natCast_nonneg _
      by_cases hlt : k < Z.length
      · obtain ⟨⟨x, y⟩, hx⟩ : ∃ x, Z[k]? = some x := ⟨_, List.getElem?_eq_getElem hlt⟩
        have e1 := G3.out.kind hx
        have e2 := G3.out.year hx
        have hk12 : k < 12 := by have := HLe.out; omega
        have hk12i : (k : Int) < 12 := by omega
        have hk8 : (k : Int) < Z.length := by omega
        have hln : (srtO Z k).length = 12 := srtO_len hk (by omega)
        obtain ⟨⟨p1, p2⟩, hp⟩ : ∃ q, (srtO Z k)[k]? = some q := ⟨_, List.getElem?_eq_getElem (by rw [hln]; exact hk12)⟩
        have f1 := G1.out.kind' hp
        have f2 := G1.out.year' hp
        have f3 := G1.out.frozen (k * 2)
        have f4 := G1.out.frozen (k * 2 + 1)
        have m1 := G1.out.set k (by rw [hln]; exact hk12) (x, y)
        rw [srtO_set hx hk12] at m1
        have m2 := (G2.out.other (B' := w3.heap.size) (by have := G5.out; omega) (k * 2) (.int .u8 x)).other (B' := w3.heap.size) (by have := G5.out; omega) (k * 2 + 1) (.int .i16 y)
        have m4 := (G4.out.setCell (p := ⟨w3.heap.size, k * 2, none⟩) (by have := G5.out; show w.heap.size ≤ w3.heap.size; omega) (.int .u8 x)).setCell (p := ⟨w3.heap.size, k * 2 + 1, none⟩) (by have := G5.out; show w.heap.size ≤ w3.heap.size; omega) (.int .i16 y)
        have m3 : OB ((wr.setCell ⟨w3.heap.size, k * 2, none⟩ (.int .u8 x)).setCell ⟨w3.heap.size, k * 2 + 1, none⟩ (.int .i16 y)) g Z cap := G3.out.below (((Below.refl w3.heap.size wr).setCell (p := ⟨w3.heap.size, k * 2, none⟩) (Nat.le_refl _) _).setCell (p := ⟨w3.heap.size, k * 2 + 1, none⟩) (Nat.le_refl _) _) G6.out
        have M1 := Lib.hid m1
        have M2 := Lib.hid m2
        have M3 := Lib.hid m3
        have M4 := Lib.hid m4
        clear m1 m2 m3 m4 hx hln hp
        go_wp2
        go_roundw
        case rel => exact ⟨k + 1, by omega, by go_num, M1.out, M2.out, M3.out, M4.out⟩
        case measure => simp [intOf]; omega
      · obtain rfl : k = Z.length := by omega
        have HR : Hid (srtO Z Z.length = srtB bs) := by show _ = _; rw [srtB, HZ.out]
        have HRl : Hid ((srtB bs).length = 12) := srtB_len bs
        have Q0 : Hid (CBlk wr w3.heap.size 36 (srtB bs)) := by show CBlk _ _ _ _; rw [← HR.out]; exact G1.out
        clear G1 HR
        obtain ⟨Y, hY⟩ : ∃ Y, srtB bs = Y := ⟨_, rfl⟩
        have HYe := Lib.hid hY
        rw [hY] at HRl Q0
        clear hY
        go_wp2_with (first
          | (refine wpList_load_row rfl 36 (.tmp 5) rfl w3.heap.size rfl 36 _ (0, 0) _ Q0.out Tryd.underlying36 rfl (size_of_crate Tryd.sizeCr _ HRl.out) ?_)
          | (refine wpList_store_row rfl 36 (.tmp 2) (.tmp 25) rfl (w.heap.size + 1) _ rfl rfl 36 _ G2.out (size_of_crate Tryd.sizeCr _ HRl.out) (by rw [ccells_size _ HRl.out]; rfl) (ccells_one _) ?_))
        exact bodyPost_ret (v := .tuple #[.agg (ccells Y).toArray, .int .i64 0]) (results_cell_tmp (v2 := .int .i64 0) rfl _ (by rfl) _ _ 36 _ (0, 0) _ rfl (G2.out.setRow (Y := Y)) Tryd.underlying36 rfl (size_of_crate Tryd.sizeCr _ HRl.out)) rfl ⟨by rw [Hv.out, ← HYe.out]; rfl, Below.setRow G4.out _ _ (by omega)⟩
end Go.Proofs.YtlfamfdgphhbcaaDoor
