/-
  SameBottles: the contracts, of the model and of the program. Condition: the bottles' numbers fit their kinds; the sentinel errors lie as the row lists them (the program's).
-/
import Derived.Test.YtbdjmacjmkcafaaDoorSb0
import Derived.Test.YtbdjmacjmkcafaaDoorKn
import Derived.Test.YtbdjmacjmkcafaaDoorQn
import Derived.Test.YtbdjmacjmkcafaaDoorBt
namespace Go.Proofs.YtbdjmacjmkcafaaDoor
open Go.ChangeShapes Go.WideShapes Go.ChangeAt Go.RowKit Go.Deep

def sbB (cs bs : List Bot) : Bool := if (okC cs && okC bs) = true then smB cs bs else false
def sbC (cs bs : List Bot) : Int := if (okC cs && okC bs) = true then 0 else 1
theorem sb_no {cs bs : List Bot} (h : (okC cs && okC bs) = false) : sbB cs bs = false ∧ sbC cs bs = 1 := by simp [sbB, sbC, h]
theorem sb_ok {cs bs : List Bot} (h : (okC cs && okC bs) = true) : sbB cs bs = smB cs bs ∧ sbC cs bs = 0 := by
  unfold sbB sbC; rw [if_pos h, if_pos h]; exact ⟨rfl, rfl⟩

set_option maxRecDepth 100000 in
set_option maxHeartbeats 2000000 in
theorem specSame_any (cs bs : List Bot) (hwa : WfC cs) (hwb : WfC bs) (w : World) : Calls Tryd.prog 4 #[.agg (ccells cs).toArray, .agg (ccells bs).toArray] w
    fun e w' => e = .returned (.tuple #[.bool (sbB cs bs), .int .i64 (sbC cs bs)]) ∧ Below w.heap.size w w' := by
  have HW := Lib.hid hwa
  have HW2 := Lib.hid hwb
  clear hwa hwb
  have h0 : Below w.heap.size w (w.alloc (.cells (ccells cs).toArray 30)) := (Below.refl _ w).alloc (Nat.le_refl _) _
  have h1 : CBlk ((w.alloc (.cells (ccells cs).toArray 30)).alloc (.cells (ccells bs).toArray 30)) w.heap.size 30 cs := (CBlk.new w _ cs).alloc _
  have h2 : CBlk ((w.alloc (.cells (ccells cs).toArray 30)).alloc (.cells (ccells bs).toArray 30)) (w.heap.size + 1) 30 bs := CBlk.new' (by simp) rfl
  have hb : Below w.heap.size w ((w.alloc (.cells (ccells cs).toArray 30)).alloc (.cells (ccells bs).toArray 30)) := h0.alloc h0.size _
  obtain ⟨W0, hW0⟩ : ∃ W0, ((w.alloc (.cells (ccells cs).toArray 30)).alloc (.cells (ccells bs).toArray 30)) = W0 := ⟨_, rfl⟩
  rw [hW0] at h1 h2 hb
  have H1 := Lib.hid h1
  have H2 := Lib.hid h2
  have H3 := Lib.hid hb
  clear h0 h1 h2 hb
  go_enter Tryd.func4, Tryd.ntmps4
  go_wp2_with fail
  clear hW0
  refine (l01Ok_any cs HW.out _ _ H1.out).mono ?_
  rintro e w1 ⟨rfl, hb⟩
  have J1 : Hid (CBlk w1 w.heap.size 30 cs) := H1.out.below hb H1.out.lt
  have J2 : Hid (CBlk w1 (w.heap.size + 1) 30 bs) := H2.out.below hb H2.out.lt
  have J3 : Hid (Below w.heap.size w w1) := H3.out.trans (hb.mono H3.out.size)
  clear hb H1 H2 H3
  cases hv : okC cs
  · have HN := Lib.hid (sb_no (cs := cs) (bs := bs) (by rw [hv]; rfl))
    clear hv
    go_wp2
    go_ret2
    exact ⟨by (rw [HN.out.1, HN.out.2]; first | done | rfl), J3.out⟩
  · have Hv := Lib.hid hv
    clear hv
    go_wp2_with fail
    refine (l01Ok_any bs HW2.out _ _ J2.out).mono ?_
    rintro e w2 ⟨rfl, hb⟩
    have I1 : Hid (CBlk w2 w.heap.size 30 cs) := J1.out.below hb J1.out.lt
    have I2 : Hid (CBlk w2 (w.heap.size + 1) 30 bs) := J2.out.below hb J2.out.lt
    have I3 : Hid (Below w.heap.size w w2) := J3.out.trans (hb.mono J3.out.size)
    clear hb J1 J2 J3
    cases hv2 : okC bs
    · have HN := Lib.hid (sb_no (cs := cs) (bs := bs) (by rw [hv2, Bool.and_false]))
      clear hv2
      go_wp2
      go_ret2
      exact ⟨by (rw [HN.out.1, HN.out.2]; first | done | rfl), I3.out⟩
    · have HN := Lib.hid (sb_ok (cs := cs) (bs := bs) (by rw [Hv.out, hv2]; rfl))
      clear hv2
      have HS := Lib.hid (l03Same_any cs bs HW.out HW2.out _ _ _ I1.out I2.out)
      obtain ⟨q, hq⟩ : ∃ q, smB cs bs = q := ⟨_, rfl⟩
      rw [hq] at HN HS
      clear hq
      go_wp2_with fail
      refine HS.out.mono ?_
      rintro e w3 ⟨rfl, hb⟩
      have K3 : Hid (Below w.heap.size w w3) := I3.out.trans (hb.mono I3.out.size)
      clear hb
      go_wp2
      go_ret2
      exact ⟨by (rw [HN.out.1, HN.out.2]; first | done | rfl), K3.out⟩

set_option maxRecDepth 100000 in
set_option maxHeartbeats 4000000 in
theorem sameBottles_any (cs bs : List Bot) (hwa : WfC cs) (hwb : WfC bs) (w : World) : Calls Tryd.prog 12 #[.agg (ccells cs).toArray, .agg (ccells bs).toArray] w
    fun e w' => e = .returned (.bool (smB cs bs)) ∧ Below w.heap.size w w' := by
  have HW := Lib.hid hwa
  have HW2 := Lib.hid hwb
  clear hwa hwb
  have h0 : Below w.heap.size w (w.alloc (.cells (ccells cs).toArray 30)) := (Below.refl _ w).alloc (Nat.le_refl _) _
  have h1 : CBlk ((w.alloc (.cells (ccells cs).toArray 30)).alloc (.cells (ccells bs).toArray 30)) w.heap.size 30 cs := (CBlk.new w _ cs).alloc _
  have h2 : CBlk ((w.alloc (.cells (ccells cs).toArray 30)).alloc (.cells (ccells bs).toArray 30)) (w.heap.size + 1) 30 bs := CBlk.new' (by simp) rfl
  have hb : Below w.heap.size w ((w.alloc (.cells (ccells cs).toArray 30)).alloc (.cells (ccells bs).toArray 30)) := h0.alloc h0.size _
  obtain ⟨W0, hW0⟩ : ∃ W0, ((w.alloc (.cells (ccells cs).toArray 30)).alloc (.cells (ccells bs).toArray 30)) = W0 := ⟨_, rfl⟩
  rw [hW0] at h1 h2 hb
  have H1 := Lib.hid h1
  have H2 := Lib.hid h2
  have H3 := Lib.hid hb
  clear h0 h1 h2 hb
  go_enter Tryd.func12, Tryd.ntmps12
  go_wp2_with fail
  clear hW0
  refine wp_region_held_drew (S := fun w' => Below W0.heap.size W0 w') (by kernel_rfl) (Below.refl _ _).drew (fun hHeld => ?_)
  refine' wpAnyH_take (i := 0) (v := _) rfl (by kernel_rfl) (by kernel_rfl) (by kernel_rfl) (fun _ _ _ h => h) (yieldsIf_load_mid (by rfl) 30 (.tmp 2) rfl w.heap.size 0 rfl (ccells cs) _ (fun w h => CBlk.range (H1.out.below h H1.out.lt)) Tryd.underlying30 rfl (size_of_crate Tryd.sizeCr _ HW.out.1)) (by assumption) ?_
  try simp only [Act.put, List.getElem_toArray, List.getElem_cons_zero, List.getElem_cons_succ, List.setIfInBounds_toArray, List.set_cons_zero, List.set_cons_succ]
  refine' wpAnyH_take (i := 3) (v := _) rfl (by kernel_rfl) (by kernel_rfl) (by kernel_rfl) (fun _ _ _ h => h) (yieldsIf_load_mid (by rfl) 30 (.tmp 3) rfl (w.heap.size + 1) 0 rfl (ccells bs) _ (fun w h => CBlk.range (H2.out.below h H2.out.lt)) Tryd.underlying30 rfl (size_of_crate Tryd.sizeCr _ HW2.out.1)) (by assumption) ?_
  try simp only [Act.put, List.getElem_toArray, List.getElem_cons_zero, List.getElem_cons_succ, List.setIfInBounds_toArray, List.set_cons_zero, List.set_cons_succ]
  obtain ⟨D0, hD0⟩ : ∃ D0, W0.drew = D0 := ⟨_, rfl⟩
  rw [hD0] at hHeld ⊢
  clear hD0
  refine wpAnyH_ready (rs := [1, 4]) (by kernel_rfl) (by simp) ?_
  refine AllReadyH.cons rfl (fun K hK => ?_) (AllReadyH.cons rfl (fun K hK => ?_) AllReadyH.nil)
  · skip
    refine if_wanted rfl ?_
    refine wp_oneCrate 46 30 (.tmp 5) rfl cs HW.out.1 rfl Tryd.underlying46 Tryd.sizeCr Tryd.zeroCr ?_
    obtain ⟨EAw, hnA⟩ : ∃ W, D0.alloc (.cells (ccells cs).toArray 30) = W := ⟨_, rfl⟩
    have hb9 : Below D0.heap.size D0 EAw := by rw [← hnA]; exact (Below.refl _ _).alloc (Nat.le_refl _) _
    have KA : Hid (CBlk EAw D0.heap.size 30 cs) := by show CBlk _ _ _ _; rw [← hnA]; exact CBlk.new _ _ _
    obtain ⟨gA, hgA⟩ : ∃ g, D0.heap.size = g := ⟨_, rfl⟩
    rw [hnA, hgA]
    rw [hgA] at KA
    clear hnA hgA
    have hH2 : Below W0.heap.size W0 EAw := hHeld.trans (hb9.mono hHeld.size)
    clear hb9
    try dsimp only
    refine hK.out _ _ hH2 (fun hHeld => ?_)
    clear hK K hH2
    try simp only [Act.put, List.getElem_toArray, List.getElem_cons_zero, List.getElem_cons_succ, List.setIfInBounds_toArray, List.set_cons_zero, List.set_cons_succ]
    refine wpAnyH_ready (rs := [2, 4]) (by kernel_rfl) (by simp) ?_
    refine AllReadyH.cons rfl (fun K hK => ?_) (AllReadyH.cons rfl (fun K hK => ?_) AllReadyH.nil)
    · skip
      refine if_wanted rfl ?_
      go_simp
      have hrd := rd_one (B := EAw.heap.size) ⟨cs, HW.out⟩ KA.out KA.out.lt
      refine (countBottles_any [⟨cs, HW.out⟩] _ _ _ (by simp) hrd).mono ?_
      rintro e CAw ⟨BA, nA, EA, rfl, hBA, hnA, hown, hhold, hb9⟩
      clear hrd
      clear KA
      have OA := Lib.hid hown
      have HHA := Lib.hid hhold
      have hH2 : Below W0.heap.size W0 CAw := hHeld.trans (hb9.mono hHeld.size)
      clear hown hhold hb9 hBA hnA
      dsimp only
      refine hK.out _ _ hH2 (fun hHeld => ?_)
      clear hK K hH2
      try simp only [Act.put, List.getElem_toArray, List.getElem_cons_zero, List.getElem_cons_succ, List.setIfInBounds_toArray, List.set_cons_zero, List.set_cons_succ]
      refine wpAnyH_ready (rs := [4]) (by kernel_rfl) (by simp) ?_
      refine AllReadyH.cons rfl (fun K hK => ?_) AllReadyH.nil
      refine if_wanted rfl ?_
      refine wp_oneCrate 46 30 (.tmp 8) rfl bs HW2.out.1 rfl Tryd.underlying46 Tryd.sizeCr Tryd.zeroCr ?_
      obtain ⟨EBw, hnB⟩ : ∃ W, CAw.alloc (.cells (ccells bs).toArray 30) = W := ⟨_, rfl⟩
      have hb9 : Below CAw.heap.size CAw EBw := by rw [← hnB]; exact (Below.refl _ _).alloc (Nat.le_refl _) _
      have KB : Hid (CBlk EBw CAw.heap.size 30 bs) := by show CBlk _ _ _ _; rw [← hnB]; exact CBlk.new _ _ _
      have OAn : Hid (OwnsB EBw BA nA EA) := OA.out.kept (grown_of_below hb9) (by simp)
      clear OA
      obtain ⟨gB, hgB⟩ : ∃ g, CAw.heap.size = g := ⟨_, rfl⟩
      rw [hnB, hgB]
      rw [hgB] at KB
      clear hnB hgB
      have hH2 : Below W0.heap.size W0 EBw := hHeld.trans (hb9.mono hHeld.size)
      clear hb9
      try dsimp only
      refine hK.out _ _ hH2 (fun hHeld => ?_)
      clear hK K hH2
      try simp only [Act.put, List.getElem_toArray, List.getElem_cons_zero, List.getElem_cons_succ, List.setIfInBounds_toArray, List.set_cons_zero, List.set_cons_succ]
      refine wpAnyH_ready (rs := [5]) (by kernel_rfl) (by simp) ?_
      refine AllReadyH.cons rfl (fun K hK => ?_) AllReadyH.nil
      refine if_wanted rfl ?_
      go_simp
      have hrd := rd_one (B := EBw.heap.size) ⟨bs, HW2.out⟩ KB.out KB.out.lt
      refine (countBottles_any [⟨bs, HW2.out⟩] _ _ _ (by simp) hrd).mono ?_
      rintro e CBw ⟨BB, nB, EB, rfl, hBB, hnB, hown, hhold, hb9⟩
      clear hrd
      clear KB
      have OAnn : Hid (OwnsB CBw BA nA EA) := OAn.out.kept (grown_of_below hb9) (by simp)
      clear OAn
      have OB := Lib.hid hown
      have HHB := Lib.hid hhold
      have hH2 : Below W0.heap.size W0 CBw := hHeld.trans (hb9.mono hHeld.size)
      clear hown hhold hb9 hBB hnB
      dsimp only
      refine hK.out _ _ hH2 (fun hHeld => ?_)
      clear hK K hH2
      try simp only [Act.put, List.getElem_toArray, List.getElem_cons_zero, List.getElem_cons_succ, List.setIfInBounds_toArray, List.set_cons_zero, List.set_cons_succ]
      refine wpAnyH_ready (rs := [6]) (by kernel_rfl) (by simp) ?_
      refine AllReadyH.cons rfl (fun K hK => ?_) AllReadyH.nil
      refine if_wanted rfl ?_
      go_simp
      refine (mapsEqual_any BA BB nA nB EA EB CBw OAnn.out OB.out).mono ?_
      rintro e Cq ⟨rfl, hb9⟩
      have hH2 : Below W0.heap.size W0 Cq := hHeld.trans (hb9.mono hHeld.size)
      rw [eqD_smB ⟨cs, HW.out⟩ ⟨bs, HW2.out⟩ OAnn.out OB.out HHA.out HHB.out]
      clear hb9
      dsimp only
      refine hK.out _ _ hH2 (fun hHeld => ?_)
      clear hK K
      try simp only [Act.put, List.getElem_toArray, List.getElem_cons_zero, List.getElem_cons_succ, List.setIfInBounds_toArray, List.set_cons_zero, List.set_cons_succ]
      refine wpAnyH_ready (rs := [7]) (by kernel_rfl) (by simp) ?_
      refine AllReadyH.cons rfl (fun K hK => ?_) AllReadyH.nil
      refine if_wanted rfl ?_
      refine wp_assign0 (v := .bool (smB cs bs)) rfl rfl ?_
      refine hK.out _ _ hH2 (fun hHeld => ?_)
      clear hK K hH2
      try simp only [Act.put, List.getElem_toArray, List.getElem_cons_zero, List.getElem_cons_succ, List.setIfInBounds_toArray, List.set_cons_zero, List.set_cons_succ]
      refine wpAnyH_done (by kernel_rfl) ?_ _
      try simp only [Act.put, List.getElem_toArray, List.getElem_cons_zero, List.getElem_cons_succ, List.setIfInBounds_toArray, List.set_cons_zero, List.set_cons_succ]
      have HBz : Hid (Below w.heap.size w Cq) := H3.out.trans (hHeld.mono H3.out.size)
      clear hHeld
      go_wp2
      go_ret
      exact ⟨rfl, HBz.out⟩
    · skip
      refine if_wanted rfl ?_
      refine wp_oneCrate 46 30 (.tmp 8) rfl bs HW2.out.1 rfl Tryd.underlying46 Tryd.sizeCr Tryd.zeroCr ?_
      obtain ⟨EBw, hnB⟩ : ∃ W, EAw.alloc (.cells (ccells bs).toArray 30) = W := ⟨_, rfl⟩
      have hb9 : Below EAw.heap.size EAw EBw := by rw [← hnB]; exact (Below.refl _ _).alloc (Nat.le_refl _) _
      have KB : Hid (CBlk EBw EAw.heap.size 30 bs) := by show CBlk _ _ _ _; rw [← hnB]; exact CBlk.new _ _ _
      have KAn : Hid (CBlk EBw gA 30 cs) := KA.out.below hb9 KA.out.lt
      clear KA
      obtain ⟨gB, hgB⟩ : ∃ g, EAw.heap.size = g := ⟨_, rfl⟩
      rw [hnB, hgB]
      rw [hgB] at KB
      clear hnB hgB
      have hH2 : Below W0.heap.size W0 EBw := hHeld.trans (hb9.mono hHeld.size)
      clear hb9
      try dsimp only
      refine hK.out _ _ hH2 (fun hHeld => ?_)
      clear hK K hH2
      try simp only [Act.put, List.getElem_toArray, List.getElem_cons_zero, List.getElem_cons_succ, List.setIfInBounds_toArray, List.set_cons_zero, List.set_cons_succ]
      refine wpAnyH_ready (rs := [2]) (by kernel_rfl) (by simp) ?_
      refine AllReadyH.cons rfl (fun K hK => ?_) AllReadyH.nil
      refine if_wanted rfl ?_
      go_simp
      have hrd := rd_one (B := EBw.heap.size) ⟨cs, HW.out⟩ KAn.out KAn.out.lt
      refine (countBottles_any [⟨cs, HW.out⟩] _ _ _ (by simp) hrd).mono ?_
      rintro e CAw ⟨BA, nA, EA, rfl, hBA, hnA, hown, hhold, hb9⟩
      clear hrd
      clear KAn
      have KBn : Hid (CBlk CAw gB 30 bs) := KB.out.below hb9 KB.out.lt
      clear KB
      have OA := Lib.hid hown
      have HHA := Lib.hid hhold
      have hH2 : Below W0.heap.size W0 CAw := hHeld.trans (hb9.mono hHeld.size)
      clear hown hhold hb9 hBA hnA
      dsimp only
      refine hK.out _ _ hH2 (fun hHeld => ?_)
      clear hK K hH2
      try simp only [Act.put, List.getElem_toArray, List.getElem_cons_zero, List.getElem_cons_succ, List.setIfInBounds_toArray, List.set_cons_zero, List.set_cons_succ]
      refine wpAnyH_ready (rs := [5]) (by kernel_rfl) (by simp) ?_
      refine AllReadyH.cons rfl (fun K hK => ?_) AllReadyH.nil
      refine if_wanted rfl ?_
      go_simp
      have hrd := rd_one (B := CAw.heap.size) ⟨bs, HW2.out⟩ KBn.out KBn.out.lt
      refine (countBottles_any [⟨bs, HW2.out⟩] _ _ _ (by simp) hrd).mono ?_
      rintro e CBw ⟨BB, nB, EB, rfl, hBB, hnB, hown, hhold, hb9⟩
      clear hrd
      clear KBn
      have OAn : Hid (OwnsB CBw BA nA EA) := OA.out.kept (grown_of_below hb9) (by simp)
      clear OA
      have OB := Lib.hid hown
      have HHB := Lib.hid hhold
      have hH2 : Below W0.heap.size W0 CBw := hHeld.trans (hb9.mono hHeld.size)
      clear hown hhold hb9 hBB hnB
      dsimp only
      refine hK.out _ _ hH2 (fun hHeld => ?_)
      clear hK K hH2
      try simp only [Act.put, List.getElem_toArray, List.getElem_cons_zero, List.getElem_cons_succ, List.setIfInBounds_toArray, List.set_cons_zero, List.set_cons_succ]
      refine wpAnyH_ready (rs := [6]) (by kernel_rfl) (by simp) ?_
      refine AllReadyH.cons rfl (fun K hK => ?_) AllReadyH.nil
      refine if_wanted rfl ?_
      go_simp
      refine (mapsEqual_any BA BB nA nB EA EB CBw OAn.out OB.out).mono ?_
      rintro e Cq ⟨rfl, hb9⟩
      have hH2 : Below W0.heap.size W0 Cq := hHeld.trans (hb9.mono hHeld.size)
      rw [eqD_smB ⟨cs, HW.out⟩ ⟨bs, HW2.out⟩ OAn.out OB.out HHA.out HHB.out]
      clear hb9
      dsimp only
      refine hK.out _ _ hH2 (fun hHeld => ?_)
      clear hK K
      try simp only [Act.put, List.getElem_toArray, List.getElem_cons_zero, List.getElem_cons_succ, List.setIfInBounds_toArray, List.set_cons_zero, List.set_cons_succ]
      refine wpAnyH_ready (rs := [7]) (by kernel_rfl) (by simp) ?_
      refine AllReadyH.cons rfl (fun K hK => ?_) AllReadyH.nil
      refine if_wanted rfl ?_
      refine wp_assign0 (v := .bool (smB cs bs)) rfl rfl ?_
      refine hK.out _ _ hH2 (fun hHeld => ?_)
      clear hK K hH2
      try simp only [Act.put, List.getElem_toArray, List.getElem_cons_zero, List.getElem_cons_succ, List.setIfInBounds_toArray, List.set_cons_zero, List.set_cons_succ]
      refine wpAnyH_done (by kernel_rfl) ?_ _
      try simp only [Act.put, List.getElem_toArray, List.getElem_cons_zero, List.getElem_cons_succ, List.setIfInBounds_toArray, List.set_cons_zero, List.set_cons_succ]
      have HBz : Hid (Below w.heap.size w Cq) := H3.out.trans (hHeld.mono H3.out.size)
      clear hHeld
      go_wp2
      go_ret
      exact ⟨rfl, HBz.out⟩
  · skip
    refine if_wanted rfl ?_
    refine wp_oneCrate 46 30 (.tmp 8) rfl bs HW2.out.1 rfl Tryd.underlying46 Tryd.sizeCr Tryd.zeroCr ?_
    obtain ⟨EBw, hnB⟩ : ∃ W, D0.alloc (.cells (ccells bs).toArray 30) = W := ⟨_, rfl⟩
    have hb9 : Below D0.heap.size D0 EBw := by rw [← hnB]; exact (Below.refl _ _).alloc (Nat.le_refl _) _
    have KB : Hid (CBlk EBw D0.heap.size 30 bs) := by show CBlk _ _ _ _; rw [← hnB]; exact CBlk.new _ _ _
    obtain ⟨gB, hgB⟩ : ∃ g, D0.heap.size = g := ⟨_, rfl⟩
    rw [hnB, hgB]
    rw [hgB] at KB
    clear hnB hgB
    have hH2 : Below W0.heap.size W0 EBw := hHeld.trans (hb9.mono hHeld.size)
    clear hb9
    try dsimp only
    refine hK.out _ _ hH2 (fun hHeld => ?_)
    clear hK K hH2
    try simp only [Act.put, List.getElem_toArray, List.getElem_cons_zero, List.getElem_cons_succ, List.setIfInBounds_toArray, List.set_cons_zero, List.set_cons_succ]
    refine wpAnyH_ready (rs := [1]) (by kernel_rfl) (by simp) ?_
    refine AllReadyH.cons rfl (fun K hK => ?_) AllReadyH.nil
    refine if_wanted rfl ?_
    refine wp_oneCrate 46 30 (.tmp 5) rfl cs HW.out.1 rfl Tryd.underlying46 Tryd.sizeCr Tryd.zeroCr ?_
    obtain ⟨EAw, hnA⟩ : ∃ W, EBw.alloc (.cells (ccells cs).toArray 30) = W := ⟨_, rfl⟩
    have hb9 : Below EBw.heap.size EBw EAw := by rw [← hnA]; exact (Below.refl _ _).alloc (Nat.le_refl _) _
    have KA : Hid (CBlk EAw EBw.heap.size 30 cs) := by show CBlk _ _ _ _; rw [← hnA]; exact CBlk.new _ _ _
    have KBn : Hid (CBlk EAw gB 30 bs) := KB.out.below hb9 KB.out.lt
    clear KB
    obtain ⟨gA, hgA⟩ : ∃ g, EBw.heap.size = g := ⟨_, rfl⟩
    rw [hnA, hgA]
    rw [hgA] at KA
    clear hnA hgA
    have hH2 : Below W0.heap.size W0 EAw := hHeld.trans (hb9.mono hHeld.size)
    clear hb9
    try dsimp only
    refine hK.out _ _ hH2 (fun hHeld => ?_)
    clear hK K hH2
    try simp only [Act.put, List.getElem_toArray, List.getElem_cons_zero, List.getElem_cons_succ, List.setIfInBounds_toArray, List.set_cons_zero, List.set_cons_succ]
    refine wpAnyH_ready (rs := [2]) (by kernel_rfl) (by simp) ?_
    refine AllReadyH.cons rfl (fun K hK => ?_) AllReadyH.nil
    refine if_wanted rfl ?_
    go_simp
    have hrd := rd_one (B := EAw.heap.size) ⟨cs, HW.out⟩ KA.out KA.out.lt
    refine (countBottles_any [⟨cs, HW.out⟩] _ _ _ (by simp) hrd).mono ?_
    rintro e CAw ⟨BA, nA, EA, rfl, hBA, hnA, hown, hhold, hb9⟩
    clear hrd
    clear KA
    have KBnn : Hid (CBlk CAw gB 30 bs) := KBn.out.below hb9 KBn.out.lt
    clear KBn
    have OA := Lib.hid hown
    have HHA := Lib.hid hhold
    have hH2 : Below W0.heap.size W0 CAw := hHeld.trans (hb9.mono hHeld.size)
    clear hown hhold hb9 hBA hnA
    dsimp only
    refine hK.out _ _ hH2 (fun hHeld => ?_)
    clear hK K hH2
    try simp only [Act.put, List.getElem_toArray, List.getElem_cons_zero, List.getElem_cons_succ, List.setIfInBounds_toArray, List.set_cons_zero, List.set_cons_succ]
    refine wpAnyH_ready (rs := [5]) (by kernel_rfl) (by simp) ?_
    refine AllReadyH.cons rfl (fun K hK => ?_) AllReadyH.nil
    refine if_wanted rfl ?_
    go_simp
    have hrd := rd_one (B := CAw.heap.size) ⟨bs, HW2.out⟩ KBnn.out KBnn.out.lt
    refine (countBottles_any [⟨bs, HW2.out⟩] _ _ _ (by simp) hrd).mono ?_
    rintro e CBw ⟨BB, nB, EB, rfl, hBB, hnB, hown, hhold, hb9⟩
    clear hrd
    clear KBnn
    have OAn : Hid (OwnsB CBw BA nA EA) := OA.out.kept (grown_of_below hb9) (by simp)
    clear OA
    have OB := Lib.hid hown
    have HHB := Lib.hid hhold
    have hH2 : Below W0.heap.size W0 CBw := hHeld.trans (hb9.mono hHeld.size)
    clear hown hhold hb9 hBB hnB
    dsimp only
    refine hK.out _ _ hH2 (fun hHeld => ?_)
    clear hK K hH2
    try simp only [Act.put, List.getElem_toArray, List.getElem_cons_zero, List.getElem_cons_succ, List.setIfInBounds_toArray, List.set_cons_zero, List.set_cons_succ]
    refine wpAnyH_ready (rs := [6]) (by kernel_rfl) (by simp) ?_
    refine AllReadyH.cons rfl (fun K hK => ?_) AllReadyH.nil
    refine if_wanted rfl ?_
    go_simp
    refine (mapsEqual_any BA BB nA nB EA EB CBw OAn.out OB.out).mono ?_
    rintro e Cq ⟨rfl, hb9⟩
    have hH2 : Below W0.heap.size W0 Cq := hHeld.trans (hb9.mono hHeld.size)
    rw [eqD_smB ⟨cs, HW.out⟩ ⟨bs, HW2.out⟩ OAn.out OB.out HHA.out HHB.out]
    clear hb9
    dsimp only
    refine hK.out _ _ hH2 (fun hHeld => ?_)
    clear hK K
    try simp only [Act.put, List.getElem_toArray, List.getElem_cons_zero, List.getElem_cons_succ, List.setIfInBounds_toArray, List.set_cons_zero, List.set_cons_succ]
    refine wpAnyH_ready (rs := [7]) (by kernel_rfl) (by simp) ?_
    refine AllReadyH.cons rfl (fun K hK => ?_) AllReadyH.nil
    refine if_wanted rfl ?_
    refine wp_assign0 (v := .bool (smB cs bs)) rfl rfl ?_
    refine hK.out _ _ hH2 (fun hHeld => ?_)
    clear hK K hH2
    try simp only [Act.put, List.getElem_toArray, List.getElem_cons_zero, List.getElem_cons_succ, List.setIfInBounds_toArray, List.set_cons_zero, List.set_cons_succ]
    refine wpAnyH_done (by kernel_rfl) ?_ _
    try simp only [Act.put, List.getElem_toArray, List.getElem_cons_zero, List.getElem_cons_succ, List.setIfInBounds_toArray, List.set_cons_zero, List.set_cons_succ]
    have HBz : Hid (Below w.heap.size w Cq) := H3.out.trans (hHeld.mono H3.out.size)
    clear hHeld
    go_wp2
    go_ret
    exact ⟨rfl, HBz.out⟩

set_option maxRecDepth 100000 in
set_option maxHeartbeats 2000000 in
theorem implSame_any (cs bs : List Bot) (hwa : WfC cs) (hwb : WfC bs) (ad : Nat → Addr) (w : World) (hE : EW 7 w ad) : Calls Tryd.prog 6 #[.agg (ccells cs).toArray, .agg (ccells bs).toArray] w
    fun e w' => e = .returned (.tuple #[.bool (sbB cs bs), .int .i64 (sbC cs bs)]) ∧ Below w.heap.size w w' := by
  have HE := Lib.hid hE
  clear hE
  have HW := Lib.hid hwa
  have HW2 := Lib.hid hwb
  clear hwa hwb
  have h0 : Below w.heap.size w (w.alloc (.cells (ccells cs).toArray 30)) := (Below.refl _ w).alloc (Nat.le_refl _) _
  have h1 : CBlk ((w.alloc (.cells (ccells cs).toArray 30)).alloc (.cells (ccells bs).toArray 30)) w.heap.size 30 cs := (CBlk.new w _ cs).alloc _
  have h2 : CBlk ((w.alloc (.cells (ccells cs).toArray 30)).alloc (.cells (ccells bs).toArray 30)) (w.heap.size + 1) 30 bs := CBlk.new' (by simp) rfl
  have hb : Below w.heap.size w ((w.alloc (.cells (ccells cs).toArray 30)).alloc (.cells (ccells bs).toArray 30)) := h0.alloc h0.size _
  obtain ⟨W0, hW0⟩ : ∃ W0, ((w.alloc (.cells (ccells cs).toArray 30)).alloc (.cells (ccells bs).toArray 30)) = W0 := ⟨_, rfl⟩
  rw [hW0] at h1 h2 hb
  have H1 := Lib.hid h1
  have H2 := Lib.hid h2
  have H3 := Lib.hid hb
  clear h0 h1 h2 hb
  go_enter Tryd.func6, Tryd.ntmps6
  go_wp2_with (first
    | (refine wpList_load_row rfl 30 (.tmp 2) rfl w.heap.size rfl 30 _ (0, 0) _ H1.out Tryd.underlying30 rfl (size_of_crate Tryd.sizeCr _ HW.out.1) ?_)
    | (refine wpList_load_row rfl 30 (.tmp 3) rfl (w.heap.size + 1) rfl 30 _ (0, 0) _ H2.out Tryd.underlying30 rfl (size_of_crate Tryd.sizeCr _ HW2.out.1) ?_)
    | (refine wpList_twoCrates rfl 46 30 (.tmp 7) (.tmp 8) rfl cs bs HW.out.1 HW2.out.1 rfl rfl Tryd.underlying46 Tryd.sizeCr Tryd.zeroCr ?_))
  clear hW0
  have hA : Below W0.heap.size W0 (W0.alloc (.cells (ccells (cs ++ bs)).toArray 30)) := (Below.refl _ W0).alloc (Nat.le_refl _) _
  have hBA := H3.out.trans (hA.mono H3.out.size)
  have hrd := rd_two (B := (W0.alloc (.cells (ccells (cs ++ bs)).toArray 30)).heap.size) ⟨cs, HW.out⟩ ⟨bs, HW2.out⟩ (CBlk.new W0 30 (cs ++ bs)) (by simp)
  refine (checkCrates_any [⟨cs, HW.out⟩, ⟨bs, HW2.out⟩] _ _ ad _ (by simp) hrd (HE.out.below hBA (Nat.le_refl _))).mono ?_
  rintro e w1 ⟨rfl, hb⟩
  have hb := hA.trans (hb.mono hA.size)
  have J1 : Hid (CBlk w1 w.heap.size 30 cs) := H1.out.below hb H1.out.lt
  have J2 : Hid (CBlk w1 (w.heap.size + 1) 30 bs) := H2.out.below hb H2.out.lt
  have J3 : Hid (Below w.heap.size w w1) := H3.out.trans (hb.mono H3.out.size)
  clear hb hA hBA hrd H1 H2 H3
  have hok : okL [(⟨cs, HW.out⟩ : Crt), ⟨bs, HW2.out⟩] = (okC cs && okC bs) := by simp [okL]
  rw [hok]
  clear hok
  cases hv : (okC cs && okC bs)
  · have HN := Lib.hid (sb_no hv)
    have e1 : chkV ad false = .iface 77 (.pointer (some (ad 5))) := rfl
    rw [e1]
    clear hv e1
    go_wp2_with fail
    refine (codeOf_5 (HE.out.below J3.out (Nat.le_refl _))).mono ?_
    rintro e w2 ⟨rfl, rfl⟩
    go_wp2
    go_ret2
    exact ⟨by (rw [HN.out.1, HN.out.2]; first | done | rfl), J3.out⟩
  · have HN := Lib.hid (sb_ok hv)
    have e1 : chkV ad true = .nilIface := rfl
    rw [e1]
    clear hv e1
    have HS : Hid (∀ W, Calls Tryd.prog 12 #[.agg (ccells cs).toArray, .agg (ccells bs).toArray] W fun e w' => e = .returned (.bool (smB cs bs)) ∧ Below W.heap.size W w') := sameBottles_any cs bs HW.out HW2.out
    obtain ⟨q, hq⟩ : ∃ q, smB cs bs = q := ⟨_, rfl⟩
    rw [hq] at HN HS
    clear hq
    go_wp2_with (first
      | (refine wpList_load_row rfl 30 (.tmp 2) rfl w.heap.size rfl 30 _ (0, 0) _ J1.out Tryd.underlying30 rfl (size_of_crate Tryd.sizeCr _ HW.out.1) ?_)
      | (refine wpList_load_row rfl 30 (.tmp 3) rfl (w.heap.size + 1) rfl 30 _ (0, 0) _ J2.out Tryd.underlying30 rfl (size_of_crate Tryd.sizeCr _ HW2.out.1) ?_))
    refine (HS.out _).mono ?_
    rintro e w3 ⟨rfl, hb⟩
    have K3 : Hid (Below w.heap.size w w3) := J3.out.trans (hb.mono J3.out.size)
    clear hb
    go_wp2
    go_ret2
    exact ⟨by (rw [HN.out.1, HN.out.2]; first | done | rfl), K3.out⟩
end Go.Proofs.YtbdjmacjmkcafaaDoor
