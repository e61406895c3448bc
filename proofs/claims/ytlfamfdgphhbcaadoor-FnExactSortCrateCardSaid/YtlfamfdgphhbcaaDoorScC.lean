/-
  SortCrate: the program's contract. Condition: the bottles' numbers fit their kinds; the sentinel errors lie as the row lists them.
-/
import Derived.Test.YtlfamfdgphhbcaaDoorScA
import Derived.Test.YtlfamfdgphhbcaaDoorAs0
import Derived.Test.YtlfamfdgphhbcaaDoorBv
namespace Go.Proofs.YtlfamfdgphhbcaaDoor
open Go.ChangeShapes Go.WideShapes Go.ChangeAt Go.RowKit Go.Deep

theorem empty_ownBt (w : World) (t : TypeId) (size : Nat) : (w.alloc (.cells #[] t)).ownsRow w.heap.size t size (.slice (some ⟨w.heap.size, 0, none⟩) 0 0) 0 [] :=
  ⟨by simp, .inr ⟨w.heap.size, 0, #[], rfl, Nat.le_refl _, heap_alloc_new w _, Nat.le_refl _, by unfold maxLen; omega, by simp, by simp⟩⟩

set_option maxRecDepth 100000 in
set_option maxHeartbeats 1000000 in
theorem cloneB_any (xs : List Bot) (A : Option Addr) (c : Nat) (w : World) (hl : xs.length ≤ 1048576) (hr : Rd w w.heap.size bcells A xs) :
    Calls Tryd.prog 72 #[.slice A xs.length c] w fun e w' => ∃ A' c', e = .returned (.slice A' xs.length c') ∧ w'.ownsRow w.heap.size 34 2 (.slice A' xs.length c') xs.length (xs.flatMap bcells) ∧ Below w.heap.size w w' := by
  obtain ⟨i0, hi, hz0, hz1, hz2⟩ := info_parts Tryd.infoBt
  have HI := Lib.hid hi
  have HZ0 := Lib.hid hz0
  have HZ1 := Lib.hid hz1
  have HZ2 := Lib.hid hz2
  clear hi hz0 hz1 hz2
  have HR := Lib.hid hr
  cases A with
  | none =>
    have hx : xs = [] := by
      rcases Nat.eq_zero_or_pos xs.length with h | h
      · exact List.eq_nil_of_length_eq_zero h
      · obtain ⟨b, o, e, -⟩ := hr h; cases e
    subst hx
    clear hr
    have hnil : ∀ w : World, (binOp .eql 74 (.slice none 0 c) (.slice none 0 0)).run Tryd.prog w = .ok (.bool true) w := fun w => Lib.run_eql_slice_nil (P := Tryd.prog) w 74 34 none 0 c 0 0 Tryd.underlying74
    show Calls Tryd.prog 72 #[.slice none 0 c] w _
    go_enter Tryd.func72, Tryd.ntmps72
    go_wp2
    go_ret
    exact ⟨none, 0, rfl, ⟨rfl, .inl ⟨rfl, rfl⟩⟩, Below.refl _ _⟩
  | some a =>
    clear hr
    have hnil : ∀ w : World, (binOp .eql 74 (.slice (some a) xs.length c) (.slice none 0 0)).run Tryd.prog w = .ok (.bool false) w := fun w => Lib.run_eql_slice_nil (P := Tryd.prog) w 74 34 (some a) xs.length c 0 0 Tryd.underlying74
    go_enter Tryd.func72, Tryd.ntmps72
    go_wp2_with (at_builtin; refine wpList_append_any _ rfl (.tmp 5) (.tmp 6) 74 74 rfl w.heap.size 34 i0 (.agg #[.int .u8 0, .int .i16 0]) 2 4 Tryd.underlying74 HI.out HZ0.out HZ1.out HZ2.out rfl (by decide) _ 0 [] rfl ?own _ xs.length (xs.flatMap bcells) rfl ?src ?c3 ?c4 ?c5 ?_)
    case own => exact empty_ownBt w _ 2
    case src => exact src_of_rd _ Tryd.underlying74 bcells_length bcells_one (HR.out.keep ((Below.refl _ w).alloc (Nat.le_refl _) _))
    case c3 => unfold maxLen; omega
    case c4 => omega
    case c5 => simp
    intro v' w2 hown hg _
    have hB : Below w.heap.size w w2 := ((Below.refl _ w).alloc (Nat.le_refl _) _).grown hg (by simp) (fun k e => by
      have e2 : w.heap.size = k := by simpa [Value.ownBlock] using e
      omega)
    have hown2 : w2.ownsRow w.heap.size 34 2 v' xs.length (xs.flatMap bcells) := by simpa using hown
    obtain ⟨A', c', rfl, -, -⟩ := own_rd bcells_length hown2
    have HO := Lib.hid hown2
    have HB := Lib.hid hB
    clear hown hown2 hg hB hnil
    go_wp2
    go_ret
    exact ⟨A', c', rfl, HO.out, HB.out⟩


theorem cblk_range {w : World} {B : Nat} {t : TypeId} {X : List Bot} (h : CBlk w B t X) : w.rangeAt B 0 (ccells X) := fun j v hv => by rw [Nat.zero_add, h.cell]; exact hv
theorem ccells_length' (Z : List Bot) : (ccells Z).length = Z.length * 2 := rows_length bcells_length Z

set_option maxRecDepth 100000 in
set_option maxHeartbeats 4000000 in
theorem implSortC_any (bs : List Bot) (hwf : WfC bs) (ad : Nat → Addr) (w : World) (hE : EW 7 w ad) : Calls Tryd.prog 12 #[.agg (ccells bs).toArray] w fun e w' => e = .returned (srtV bs (okC bs)) ∧ Below w.heap.size w w' := by
  have HW := Lib.hid hwf
  have HE := Lib.hid hE
  clear hwf hE
  have h0 : Below w.heap.size w (w.alloc (.cells (ccells bs).toArray 36)) := (Below.refl _ w).alloc (Nat.le_refl _) _
  have h1 := (CBlk.new w 36 bs).alloc (.cells #[.int .u8 0, .int .i16 0, .int .u8 0, .int .i16 0, .int .u8 0, .int .i16 0, .int .u8 0, .int .i16 0, .int .u8 0, .int .i16 0, .int .u8 0, .int .i16 0, .int .u8 0, .int .i16 0, .int .u8 0, .int .i16 0, .int .u8 0, .int .i16 0, .int .u8 0, .int .i16 0, .int .u8 0, .int .i16 0, .int .u8 0, .int .i16 0] 36)
  have h2 : CBlk ((w.alloc (.cells (ccells bs).toArray 36)).alloc (.cells #[.int .u8 0, .int .i16 0, .int .u8 0, .int .i16 0, .int .u8 0, .int .i16 0, .int .u8 0, .int .i16 0, .int .u8 0, .int .i16 0, .int .u8 0, .int .i16 0, .int .u8 0, .int .i16 0, .int .u8 0, .int .i16 0, .int .u8 0, .int .i16 0, .int .u8 0, .int .i16 0, .int .u8 0, .int .i16 0, .int .u8 0, .int .i16 0] 36)) (w.heap.size + 1) 36 noB := CBlk.new' (by simp) rfl
  have h3 : Below w.heap.size w ((w.alloc (.cells (ccells bs).toArray 36)).alloc (.cells #[.int .u8 0, .int .i16 0, .int .u8 0, .int .i16 0, .int .u8 0, .int .i16 0, .int .u8 0, .int .i16 0, .int .u8 0, .int .i16 0, .int .u8 0, .int .i16 0, .int .u8 0, .int .i16 0, .int .u8 0, .int .i16 0, .int .u8 0, .int .i16 0, .int .u8 0, .int .i16 0, .int .u8 0, .int .i16 0, .int .u8 0, .int .i16 0] 36)) := h0.alloc h0.size _
  clear h0
  have h4 : ((w.alloc (.cells (ccells bs).toArray 36)).alloc (.cells #[.int .u8 0, .int .i16 0, .int .u8 0, .int .i16 0, .int .u8 0, .int .i16 0, .int .u8 0, .int .i16 0, .int .u8 0, .int .i16 0, .int .u8 0, .int .i16 0, .int .u8 0, .int .i16 0, .int .u8 0, .int .i16 0, .int .u8 0, .int .i16 0, .int .u8 0, .int .i16 0, .int .u8 0, .int .i16 0, .int .u8 0, .int .i16 0] 36)).heap.size = w.heap.size + 1 + 1 := by simp
  have H1 := Lib.hid h1
  have H2 := Lib.hid h2
  have H3 := Lib.hid h3
  have H4 := Lib.hid h4
  clear h1 h2 h3 h4
  go_enter Tryd.func12, Tryd.ntmps12
  go_wp2_with (first
    | (refine wpList_load_row rfl 36 (.tmp 1) rfl w.heap.size rfl 36 _ (0, 0) _ H1.out Tryd.underlying36 rfl (size_of_crate Tryd.sizeCr _ HW.out.1) ?_)
    | (refine wpList_oneCrate rfl 121 36 (.tmp 6) rfl bs HW.out.1 rfl Tryd.underlying121 Tryd.sizeCr Tryd.zeroCr ?_))
  obtain ⟨W0, hW0⟩ : ∃ W0, ((w.alloc (.cells (ccells bs).toArray 36)).alloc (.cells #[.int .u8 0, .int .i16 0, .int .u8 0, .int .i16 0, .int .u8 0, .int .i16 0, .int .u8 0, .int .i16 0, .int .u8 0, .int .i16 0, .int .u8 0, .int .i16 0, .int .u8 0, .int .i16 0, .int .u8 0, .int .i16 0, .int .u8 0, .int .i16 0, .int .u8 0, .int .i16 0, .int .u8 0, .int .i16 0, .int .u8 0, .int .i16 0] 36)).alloc (.cells (ccells bs).toArray 36) = W0 := ⟨_, rfl⟩
  have hB0 : Below w.heap.size w W0 := by rw [← hW0]; exact H3.out.alloc H3.out.size _
  have k0 : CBlk W0 w.heap.size 36 bs := by rw [← hW0]; exact CBlk.alloc H1.out _
  have k1 : CBlk W0 (w.heap.size + 1) 36 noB := by rw [← hW0]; exact CBlk.alloc H2.out _
  have k2 : CBlk W0 (w.heap.size + 1 + 1) 36 bs := by rw [← hW0]; exact CBlk.new' H4.out.symm rfl
  rw [hW0]
  have HBW := Lib.hid hB0
  have K0 := Lib.hid k0
  have K1 := Lib.hid k1
  have K2 := Lib.hid k2
  clear hW0 hB0 k0 k1 k2 H1 H2 H3 H4
  refine (checkOne_any bs HW.out _ _ ad _ K2.out (HE.out.below HBW.out (Nat.le_refl _))).mono ?_
  rintro e w1 ⟨rfl, hb1⟩
  have HB1 : Hid (Below w.heap.size w w1) := HBW.out.trans (hb1.mono HBW.out.size)
  have L0 : Hid (CBlk w1 w.heap.size 36 bs) := K0.out.below hb1 K0.out.lt
  have L1 : Hid (CBlk w1 (w.heap.size + 1) 36 noB) := K1.out.below hb1 K1.out.lt
  clear hb1 K0 K1 K2 HBW
  cases hv : okC bs
  · have Hv := Lib.hid hv
    have e1 : chkV ad false = .iface 197 (.pointer (some (ad 5))) := rfl
    rw [e1]
    clear hv e1
    go_wp2_with fail
    refine (codeOf_5 (HE.out.below HB1.out (Nat.le_refl _))).mono ?_
    rintro e w2 ⟨rfl, rfl⟩
    go_wp2_with (refine wpList_store_row rfl 36 (.tmp 2) (.tmp 11) rfl (w.heap.size + 1) (ccells noB).toArray rfl rfl 36 _ L1.out (size_of_crate Tryd.sizeCr _ rfl) rfl (ccells_one _) ?_)
    exact bodyPost_ret (v := .tuple #[.agg (ccells noB).toArray, .int .i64 1]) (results_cell_tmp (v2 := .int .i64 1) rfl _ (by rfl) _ _ 36 _ (0, 0) _ rfl (L1.out.setRow (Y := noB)) Tryd.underlying36 rfl (size_of_crate Tryd.sizeCr _ rfl)) rfl ⟨by rw [Hv.out]; rfl, Below.setRow HB1.out _ _ (by omega)⟩
  · have Hv := Lib.hid hv
    have e1 : chkV ad true = .nilIface := rfl
    rw [e1]
    clear hv e1
    obtain ⟨W5, hW5⟩ : ∃ W, w1.alloc (.cells #[.int .u8 0, .int .i16 0, .int .u8 0, .int .i16 0, .int .u8 0, .int .i16 0, .int .u8 0, .int .i16 0, .int .u8 0, .int .i16 0, .int .u8 0, .int .i16 0, .int .u8 0, .int .i16 0, .int .u8 0, .int .i16 0, .int .u8 0, .int .i16 0, .int .u8 0, .int .i16 0, .int .u8 0, .int .i16 0, .int .u8 0, .int .i16 0] 36) = W := ⟨_, rfl⟩
    have g0 : CBlk W5 w1.heap.size 36 noB := by rw [← hW5]; exact CBlk.new' rfl rfl
    have g1 : CBlk W5 (w.heap.size + 1) 36 noB := by rw [← hW5]; exact L1.out.alloc _
    have g2 : CBlk W5 w.heap.size 36 bs := by rw [← hW5]; exact L0.out.alloc _
    have g3 : Below w1.heap.size w1 W5 := by rw [← hW5]; exact (Below.refl _ _).alloc (Nat.le_refl _) _
    have G0 := Lib.hid g0
    have HSx : Hid (Below w1.heap.size w1 W5.drew) := g3.drew
    have HL1 : Hid (w.heap.size + 1 < w1.heap.size) := L1.out.lt
    clear g0 g1 g2 g3
    have HX := Lib.hid (srtL_len bs)
    have HLe := Lib.hid (allB_length bs 12)
    go_wp2_with fail
    clear hW5
    refine wp_region_held_drew (S := fun w' => Below w1.heap.size w1 w') (by kernel_rfl) HSx.out (fun hHeld => ?_)
    refine wpAnyH_take (i := 0) (v := .slice (some ⟨w1.heap.size, 0, none⟩) 12 12) rfl (by kernel_rfl) (by kernel_rfl) (by kernel_rfl) (fun _ _ _ h => h) (Or.inl ⟨by rfl, fun w' h => by go_simp⟩) (by assumption) ?_
    try simp only [Act.put, List.getElem_toArray, List.getElem_cons_zero, List.getElem_cons_succ, List.setIfInBounds_toArray, List.set_cons_zero, List.set_cons_succ]
    refine' wpAnyH_take (i := 1) (v := _) rfl (by kernel_rfl) (by kernel_rfl) (by kernel_rfl) (fun _ _ _ h => h) (yieldsIf_load_mid (by rfl) 36 (.tmp 1) rfl w.heap.size 0 rfl (ccells bs) _ (fun w' h => cblk_range (L0.out.below h L0.out.lt)) Tryd.underlying36 rfl (size_of_crate Tryd.sizeCr _ HW.out.1)) (by assumption) ?_
    try simp only [Act.put, List.getElem_toArray, List.getElem_cons_zero, List.getElem_cons_succ, List.setIfInBounds_toArray, List.set_cons_zero, List.set_cons_succ]
    obtain ⟨D0, hD0⟩ : ∃ D0, W5.drew = D0 := ⟨_, rfl⟩
    have G0d : Hid (CBlk W5.drew w1.heap.size 36 noB) := G0.out
    rw [hD0] at hHeld G0d ⊢
    clear hD0 G0 HSx
    refine wpAnyH_ready (rs := [2]) (by kernel_rfl) (by simp) ?_
    refine AllReadyH.cons rfl (fun K hK => ?_) AllReadyH.nil
    refine if_wanted rfl ?_
    go_simp
    refine (callsIn_wide.1 (bottlesOf_in 6 (Nat.le_refl _) bs HW.out _)).mono ?_
    rintro e u1 ⟨v, rfl, hr, hb⟩
    have hH2 : Below w1.heap.size w1 u1 := hHeld.trans (hb.mono hHeld.size)
    have G0e : Hid (CBlk u1 w1.heap.size 36 noB) := G0d.out.below hb G0d.out.lt
    obtain ⟨Al, cl, rfl, -, -⟩ := own_rd (cells := bcells) bcells_length hr
    have hrd := own_rd2 (cells := bcells) bcells_length hr
    have HOd := Lib.hid (orderedB_any cmpB (allB bs 12) (allB bs 12).length rfl (by have := HLe.out; omega) (fun a b _ _ => cmpB_in a b) (fun a b _ _ W => cmpB_any a.1 a.2 b.1 b.2 W) Al cl u1 hrd (fun W hW => cloneB_any (allB bs 12) Al cl W (by have := HLe.out; omega) (hrd.keep hW)))
    clear hr hrd G0d
    clear hb hHeld
    dsimp only
    refine hK.out _ _ hH2 (fun hHeld => ?_)
    clear hK K hH2
    try simp only [Act.put, List.getElem_toArray, List.getElem_cons_zero, List.getElem_cons_succ, List.setIfInBounds_toArray, List.set_cons_zero, List.set_cons_succ]
    refine wpAnyH_ready (rs := [3]) (by kernel_rfl) (by simp) ?_
    refine AllReadyH.cons rfl (fun K hK => ?_) AllReadyH.nil
    refine if_wanted rfl ?_
    go_simp
    refine (HOd.out).mono ?_
    rintro e u2 ⟨A2, c2, rfl, hr2, hb⟩
    have hH2 : Below w1.heap.size w1 u2 := hHeld.trans (hb.mono hHeld.size)
    have G0f : Hid (CBlk u2 w1.heap.size 36 noB) := G0e.out.below hb G0e.out.lt
    have hr3 : u2.ownsRow u1.heap.size 34 2 (.slice A2 (allB bs 12).length c2) (srtL bs).length ((srtL bs).flatMap bcells) := by rw [HX.out]; exact hr2
    clear hr2 G0e HOd
    rw [← HX.out] at hr3 ⊢
    have HR3 := Lib.hid hr3
    clear hr3
    clear HX
    have HLe2 := Lib.hid (srtL_le bs)
    obtain ⟨Z, hZ⟩ : ∃ Z, srtL bs = Z := ⟨_, rfl⟩
    have HZ := Lib.hid hZ
    rw [hZ] at HR3 HLe2 ⊢
    clear hZ
    clear hb hHeld
    dsimp only
    refine hK.out _ _ hH2 (fun hHeld => ?_)
    clear hK K hH2
    try simp only [Act.put, List.getElem_toArray, List.getElem_cons_zero, List.getElem_cons_succ, List.setIfInBounds_toArray, List.set_cons_zero, List.set_cons_succ]
    have HU : Hid (Below w1.heap.size w1 u2) := hHeld
    refine wpAnyH_ready (rs := [4]) (by kernel_rfl) (by simp) ?_
    refine AllReadyH.cons rfl (fun K hK => ?_) AllReadyH.nil
    have hcp : ∃ W7, (Builtin.copy_ #[74, 74] 3 #[.slice (some ⟨w1.heap.size, 0, none⟩) 12 12, .slice A2 Z.length c2]).run Tryd.prog u2 = .ok (goInt Z.length) W7 ∧ CBlk W7 w1.heap.size 36 (srtO Z Z.length) ∧ Below w1.heap.size u2 W7 := by
      rcases HR3.out.2 with ⟨h1, h2⟩ | ⟨g, cap, cur, h1, h2, h3, h4, h5, h6, h7⟩
      · obtain ⟨rfl, -, rfl⟩ := Value.slice.inj h1
        have hz := List.eq_nil_of_length_eq_zero h2
        subst hz
        refine ⟨u2, ?_, ?_, Below.refl _ _⟩
        · exact run_copy_nilM u2 _ _ _ _ _ _ _ Tryd.underlying74 (by rw [Tryd.sizeBt]; rfl)
        · exact G0f.out
      · obtain ⟨rfl, -, rfl⟩ := Value.slice.inj h1
        have hl : (ccells Z).length = Z.length * 2 := ccells_length' Z
        refine ⟨_, run_copy_rowM u2 74 74 _ 34 w1.heap.size 0 12 12 ⟨g, 0, none⟩ Z.length c2 Z.length 2 (ccells noB).toArray 36 (ccells Z) Tryd.underlying74 Tryd.sizeBt G0f.out (by have := HLe2.out; exact Nat.min_eq_left this) hl (fun j v hv => ?_) (by have := HLe2.out; rw [hl]; show 0 + Z.length * 2 ≤ 24; omega) (fun v hv => (Array.all_eq_true_iff_forall_mem.1 (ccells_one Z)) v (by simpa using hv)), ?_, Below.setRow (Below.refl _ _) _ _ (Nat.le_refl _)⟩
        · rw [show (⟨g, 0, none⟩ : Addr).add j = ⟨g, 0 + j, none⟩ from Addr.add_mid g 0 j, Nat.zero_add, cell_of_row u2 g j cur _ (0, 0) h3]
          have h8 : (cur.toList.take (Z.length * 2))[j]? = some v := by rw [h7]; exact hv
          rw [List.getElem?_take] at h8
          split at h8
          · simpa using h8
          · cases h8
        · have h8 := srtB_cells Z HLe2.out
          rw [← hl] at h8
          show CBlk _ _ _ _
          have h9 : CBlk (u2.setRow w1.heap.size (ccells (srtO Z Z.length)).toArray) w1.heap.size 36 (srtO Z Z.length) := G0f.out.setRow
          rw [← h8] at h9
          unfold CBlk at h9 ⊢
          rw [h8] at h9
          rw [h8]
          simpa [h8] using h9
    obtain ⟨W7, hcp, hW7, hB7⟩ := hcp
    refine if_wanted rfl (wp_copyM (.tmp 14) (.tmp 17) 74 74 rfl _ _ _ W7 rfl rfl hcp ?_)
    have hH2 : Below w1.heap.size w1 W7 := HU.out.trans hB7
    refine hK.out _ _ hH2 (fun hHeld => ?_)
    clear hK K hH2
    try simp only [Act.put, List.getElem_toArray, List.getElem_cons_zero, List.getElem_cons_succ, List.setIfInBounds_toArray, List.set_cons_zero, List.set_cons_succ]
    refine wpAnyH_done (by kernel_rfl) ?_ _
    try simp only [Act.put, List.getElem_toArray, List.getElem_cons_zero, List.getElem_cons_succ, List.setIfInBounds_toArray, List.set_cons_zero, List.set_cons_succ]
    clear hHeld hcp
    have HL7 : Hid (CBlk W7 (w.heap.size + 1) 36 noB) := L1.out.below (HU.out.trans hB7) L1.out.lt
    have HB7 : Hid (Below w.heap.size w W7) := HB1.out.trans ((HU.out.trans hB7).mono HB1.out.size)
    have HR : Hid (srtO Z Z.length = srtB bs) := by show _ = _; rw [srtB, HZ.out]
    have HRl : Hid ((srtB bs).length = 12) := srtB_len bs
    have Q0 : Hid (CBlk W7 w1.heap.size 36 (srtB bs)) := by show CBlk _ _ _ _; rw [← HR.out]; exact hW7
    clear hW7 hB7 HR HU G0f HR3
    obtain ⟨Y, hY⟩ : ∃ Y, srtB bs = Y := ⟨_, rfl⟩
    have HYe := Lib.hid hY
    rw [hY] at HRl Q0
    clear hY
    go_wp2_with (first
      | (refine wpList_load_row rfl 36 (.tmp 5) rfl w1.heap.size rfl 36 _ (0, 0) _ Q0.out Tryd.underlying36 rfl (size_of_crate Tryd.sizeCr _ HRl.out) ?_)
      | (refine wpList_store_row rfl 36 (.tmp 2) (.tmp 19) rfl (w.heap.size + 1) _ rfl rfl 36 _ HL7.out (size_of_crate Tryd.sizeCr _ HRl.out) (by rw [ccells_size _ HRl.out]; rfl) (ccells_one _) ?_))
    exact bodyPost_ret (v := .tuple #[.agg (ccells Y).toArray, .int .i64 0]) (results_cell_tmp (v2 := .int .i64 0) rfl _ (by rfl) _ _ 36 _ (0, 0) _ rfl (HL7.out.setRow (Y := Y)) Tryd.underlying36 rfl (size_of_crate Tryd.sizeCr _ HRl.out)) rfl ⟨by rw [Hv.out, ← HYe.out]; rfl, Below.setRow HB7.out _ _ (by omega)⟩
end Go.Proofs.YtlfamfdgphhbcaaDoor
