/-
  The contracts of the program's SwapAll and SwapPlaces. Condition: the crate's length, that its numbers and those of the swaps fit their kinds; the sentinel errors lie as the row lists them.
-/
import Derived.Test.YtidfddemcjjgdaaDoorSr
namespace Go.Proofs.YtidfddemcjjgdaaDoor
open Go.ChangeShapes Go.WideShapes Go.ChangeAt Go.RowKit Go.Deep

theorem chkV_isE (ad : Nat → Addr) (ok : Bool) : isE (chkV ad ok) := by
  cases ok
  · exact .inr ⟨_, rfl⟩
  · exact .inl rfl
theorem csV_long (ad : Nat → Addr) {xs : List Swp} (h : 60 < xs.length) : csV ad xs = errV (ad 1) := by rw [csV, if_pos h]
theorem csV_no (ad : Nat → Addr) {xs : List Swp} (h : ¬ 60 < xs.length) (h2 : xs.all canS = false) : csV ad xs = errV (ad 0) := by rw [csV, if_neg h, h2]; rfl
theorem csV_ok (ad : Nat → Addr) {xs : List Swp} (h : ¬ 60 < xs.length) (h2 : xs.all canS = true) : csV ad xs = .nilIface := by rw [csV, if_neg h, h2]; rfl

set_option maxRecDepth 100000 in
set_option maxHeartbeats 4000000 in
theorem implSwapAll_any (bs : List Bot) (hwf : WfC bs) (xs : List Swp) (hxs : ∀ x ∈ xs, wfS x) (A : Option Addr) (c : Nat) (ad : Nat → Addr) (w : World) (hl : xs.length ≤ 1048576) (hr : Rd w w.heap.size scells A xs) (hE : EW 7 w ad) :
    Calls Tryd.prog 23 #[.agg (ccells bs).toArray, .slice A xs.length c] w
    fun e w' => e = .returned (ccV (saL bs xs) (saC bs xs)) ∧ Below w.heap.size w w' := by
  have HW := Lib.hid hwf
  have HX := Lib.hid hxs
  have HR := Lib.hid hr
  have HE := Lib.hid hE
  clear hwf hr hxs hE
  have h1 : CBlk ((w.alloc (.cells (ccells bs).toArray 31)).alloc (.cells #[.int .u8 0, .int .i16 0, .int .u8 0, .int .i16 0, .int .u8 0, .int .i16 0, .int .u8 0, .int .i16 0, .int .u8 0, .int .i16 0, .int .u8 0, .int .i16 0, .int .u8 0, .int .i16 0, .int .u8 0, .int .i16 0, .int .u8 0, .int .i16 0, .int .u8 0, .int .i16 0, .int .u8 0, .int .i16 0, .int .u8 0, .int .i16 0] 31)) w.heap.size 31 bs := (CBlk.new w _ bs).alloc _
  have h3 : CBlk ((w.alloc (.cells (ccells bs).toArray 31)).alloc (.cells #[.int .u8 0, .int .i16 0, .int .u8 0, .int .i16 0, .int .u8 0, .int .i16 0, .int .u8 0, .int .i16 0, .int .u8 0, .int .i16 0, .int .u8 0, .int .i16 0, .int .u8 0, .int .i16 0, .int .u8 0, .int .i16 0, .int .u8 0, .int .i16 0, .int .u8 0, .int .i16 0, .int .u8 0, .int .i16 0, .int .u8 0, .int .i16 0] 31)) (w.heap.size + 1) 31 noB := CBlk.new' (by simp) rfl
  have hb : Below w.heap.size w ((w.alloc (.cells (ccells bs).toArray 31)).alloc (.cells #[.int .u8 0, .int .i16 0, .int .u8 0, .int .i16 0, .int .u8 0, .int .i16 0, .int .u8 0, .int .i16 0, .int .u8 0, .int .i16 0, .int .u8 0, .int .i16 0, .int .u8 0, .int .i16 0, .int .u8 0, .int .i16 0, .int .u8 0, .int .i16 0, .int .u8 0, .int .i16 0, .int .u8 0, .int .i16 0, .int .u8 0, .int .i16 0] 31)) := (by repeat (first | exact Below.refl _ _ | refine Below.drew ?_ | refine Below.alloc ?_ (by simp <;> omega) _ | refine Below.setCell ?_ (by simp <;> omega) _))
  obtain ⟨W1, hW1⟩ : ∃ W1, ((w.alloc (.cells (ccells bs).toArray 31)).alloc (.cells #[.int .u8 0, .int .i16 0, .int .u8 0, .int .i16 0, .int .u8 0, .int .i16 0, .int .u8 0, .int .i16 0, .int .u8 0, .int .i16 0, .int .u8 0, .int .i16 0, .int .u8 0, .int .i16 0, .int .u8 0, .int .i16 0, .int .u8 0, .int .i16 0, .int .u8 0, .int .i16 0, .int .u8 0, .int .i16 0, .int .u8 0, .int .i16 0] 31)) = W1 := ⟨_, rfl⟩
  rw [hW1] at h1 h3 hb
  have H1 := Lib.hid h1
  have H3 := Lib.hid h3
  have HB := Lib.hid hb
  clear h1 h3 hb
  go_enter Tryd.func23, Tryd.ntmps23
  go_wp2_with (first
    | (refine wpList_load_row rfl 31 (.tmp 2) rfl w.heap.size rfl 31 _ (0, 0) _ H1.out Tryd.underlying31 rfl (size_of_crate Tryd.sizeCr _ HW.out.1) ?_)
    | (refine wpList_oneCrate rfl 61 31 (.tmp 7) rfl bs HW.out.1 rfl Tryd.underlying61 Tryd.sizeCr Tryd.zeroCr ?_))
  clear hW1
  have hA : Below W1.heap.size W1 (W1.alloc (.cells (ccells bs).toArray 31)) := (Below.refl _ W1).alloc (Nat.le_refl _) _
  refine (checkOne_any bs HW.out W1.heap.size _ ad _ (CBlk.new W1 31 bs) (HE.out.below (HB.out.trans (hA.mono HB.out.size)) (Nat.le_refl _))).mono ?_
  rintro e w1 ⟨rfl, hb1⟩
  have hB1 : Below W1.heap.size W1 w1 := hA.trans (hb1.mono hA.size)
  have HB1 : Hid (Below w.heap.size w w1) := HB.out.trans (hB1.mono HB.out.size)
  have J1 : Hid (CBlk w1 w.heap.size 31 bs) := H1.out.below hB1 H1.out.lt
  have J3 : Hid (CBlk w1 (w.heap.size + 1) 31 noB) := H3.out.below hB1 H3.out.lt
  clear hb1 hA hB1 H1 H3 HB
  have hp0 := chkV_isE ad (okC bs)
  have hp1 := csV_isE ad xs
  obtain ⟨v0, hv0⟩ : ∃ v, chkV ad (okC bs) = v := ⟨_, rfl⟩
  rw [hv0] at hp0 ⊢
  have V0 := Lib.hid hv0
  have P0 := Lib.hid hp0
  have P1 := Lib.hid hp1
  clear hv0 hp0 hp1
  go_wp2_with fail
  refine (checkSwaps_any xs HX.out A c ad _ hl (HR.out.keep HB1.out) (HE.out.below HB1.out (Nat.le_refl _))).mono ?_
  rintro e w2 ⟨rfl, hb2⟩
  have HB2 : Hid (Below w.heap.size w w2) := HB1.out.trans (hb2.mono HB1.out.size)
  have I1 : Hid (CBlk w2 w.heap.size 31 bs) := J1.out.below hb2 J1.out.lt
  have I3 : Hid (CBlk w2 (w.heap.size + 1) 31 noB) := J3.out.below hb2 J3.out.lt
  clear hb2 J1 J3 HB1
  obtain ⟨v1, hv1⟩ : ∃ v, csV ad xs = v := ⟨_, rfl⟩
  rw [hv1] at P1 ⊢
  have V1 := Lib.hid hv1
  clear hv1
  go_wp2_with (refine wpList_twoErrs rfl (.tmp 9) (.tmp 11) rfl P0.out P1.out rfl rfl ?_)
  have q0 := new_cell2 w2 v0 v1 90
  have hB3 : Below w.heap.size w (w2.alloc (.cells #[v0, v1] 90)) := HB2.out.alloc HB2.out.size _
  have hK1 : CBlk (w2.alloc (.cells #[v0, v1] 90)) w.heap.size 31 bs := I1.out.alloc _
  have hK3 : CBlk (w2.alloc (.cells #[v0, v1] 90)) (w.heap.size + 1) 31 noB := I3.out.alloc _
  refine (first2_any P0.out P1.out _ _ _ q0.1 q0.2).mono ?_
  rintro e w3 ⟨rfl, hw3⟩
  rw [hw3] at hB3 hK1 hK3
  have HB3 := Lib.hid hB3
  have K1 := Lib.hid hK1
  have K3 := Lib.hid hK3
  clear q0 hB3 hK1 hK3 hw3 I1 I3 HB2
  cases hok : okC bs
  · have hv : firstV v0 v1 = .iface 202 (.pointer (some (ad 5))) := by rw [← V0.out, hok]; rfl
    rw [hv]
    have hc := saC_bad xs hok
    have hn := saL_no hc (by decide)
    have HC := Lib.hid hc
    have HN := Lib.hid hn
    clear hv hc hn hok V0 V1
    go_wp2_with fail
    refine (codeOf_5 ((HE.out.below HB3.out (Nat.le_refl _)))).mono ?_
    rintro e w4 ⟨rfl, rfl⟩
    go_wp2_with (refine wpList_store_row rfl 31 (.tmp 4) (.tmp 16) rfl (w.heap.size + 1) (ccells noB).toArray rfl rfl 31 _ K3.out (size_of_crate Tryd.sizeCr _ rfl) rfl (ccells_one _) ?_)
    exact bodyPost_ret (v := ccV noB 1) (results_ctS (v2 := .int .i64 1) rfl _ (by rfl) _ _ 31 _ (0, 0) _ rfl (K3.out.setRow (Y := noB)) Tryd.underlying31 rfl (size_of_crate Tryd.sizeCr _ rfl)) rfl ⟨by rw [HC.out, HN.out], Below.setRow HB3.out _ _ (by omega)⟩
  have Hok := Lib.hid hok
  have hf : firstV v0 v1 = v1 := by rw [← V0.out, hok]; rfl
  rw [hf]
  clear hok hf V0
  by_cases hlong : 60 < xs.length
  · have hv : v1 = .iface 202 (.pointer (some (ad 1))) := by rw [← V1.out, csV_long ad hlong]; rfl
    rw [hv]
    have hc := saC_long Hok.out hlong
    have hn := saL_no hc (by decide)
    have HC := Lib.hid hc
    have HN := Lib.hid hn
    clear hv hc hn V1
    go_wp2_with fail
    refine (codeOf_1 ((HE.out.below HB3.out (Nat.le_refl _)).less (by omega))).mono ?_
    rintro e w4 ⟨rfl, rfl⟩
    go_wp2_with (refine wpList_store_row rfl 31 (.tmp 4) (.tmp 16) rfl (w.heap.size + 1) (ccells noB).toArray rfl rfl 31 _ K3.out (size_of_crate Tryd.sizeCr _ rfl) rfl (ccells_one _) ?_)
    exact bodyPost_ret (v := ccV noB 3) (results_ctS (v2 := .int .i64 3) rfl _ (by rfl) _ _ 31 _ (0, 0) _ rfl (K3.out.setRow (Y := noB)) Tryd.underlying31 rfl (size_of_crate Tryd.sizeCr _ rfl)) rfl ⟨by rw [HC.out, HN.out], Below.setRow HB3.out _ _ (by omega)⟩
  cases hall : xs.all canS
  · have hv : v1 = .iface 202 (.pointer (some (ad 0))) := by rw [← V1.out, csV_no ad hlong hall]; rfl
    rw [hv]
    have hc := saC_no Hok.out hlong hall
    have hn := saL_no hc (by decide)
    have HC := Lib.hid hc
    have HN := Lib.hid hn
    clear hv hc hn hall V1
    go_wp2_with fail
    refine (codeOf_0 ((HE.out.below HB3.out (Nat.le_refl _)).less (by omega))).mono ?_
    rintro e w4 ⟨rfl, rfl⟩
    go_wp2_with (refine wpList_store_row rfl 31 (.tmp 4) (.tmp 16) rfl (w.heap.size + 1) (ccells noB).toArray rfl rfl 31 _ K3.out (size_of_crate Tryd.sizeCr _ rfl) rfl (ccells_one _) ?_)
    exact bodyPost_ret (v := ccV noB 2) (results_ctS (v2 := .int .i64 2) rfl _ (by rfl) _ _ 31 _ (0, 0) _ rfl (K3.out.setRow (Y := noB)) Tryd.underlying31 rfl (size_of_crate Tryd.sizeCr _ rfl)) rfl ⟨by rw [HC.out, HN.out], Below.setRow HB3.out _ _ (by omega)⟩
  · have hv : v1 = .nilIface := by rw [← V1.out, csV_ok ad hlong hall]
    rw [hv]
    have hc := saC_ok Hok.out hlong hall
    have hn := saL_of hc
    have HC := Lib.hid hc
    have HN := Lib.hid hn
    have HA := Lib.hid hall
    clear hv hc hn hall V1 P0 P1
    go_wp2_with (refine wpList_load_row rfl 31 (.tmp 2) rfl w.heap.size rfl 31 _ (0, 0) _ K1.out Tryd.underlying31 rfl (size_of_crate Tryd.sizeCr _ HW.out.1) ?_)
    refine (swappedAll_any bs HW.out xs HA.out A c _ hl (HR.out.keep HB3.out)).mono ?_
    rintro e w4 ⟨rfl, hb4⟩
    have HB4 : Hid (Below w.heap.size w w4) := HB3.out.trans (hb4.mono HB3.out.size)
    have L3 : Hid (CBlk w4 (w.heap.size + 1) 31 noB) := K3.out.below hb4 K3.out.lt
    have QL := Lib.hid ((swTo_wf HW.out HA.out xs.length).1)
    clear hb4 K1 K3 HB3
    obtain ⟨Z, hZ⟩ : ∃ Z, swTo bs xs xs.length = Z := ⟨_, rfl⟩
    rw [hZ] at QL HN ⊢
    clear hZ
    go_wp2_with (refine wpList_store_row rfl 31 (.tmp 4) (.tmp 21) rfl (w.heap.size + 1) _ rfl rfl 31 _ L3.out (size_of_crate Tryd.sizeCr _ QL.out) (by rw [ccells_size _ QL.out]; rfl) (ccells_one _) ?_)
    exact bodyPost_ret (v := ccV Z 0) (results_ctS (v2 := .int .i64 0) rfl _ (by rfl) _ _ 31 _ (0, 0) _ rfl (L3.out.setRow (Y := Z)) Tryd.underlying31 rfl (size_of_crate Tryd.sizeCr _ QL.out)) rfl ⟨by rw [HC.out, HN.out], Below.setRow HB4.out _ _ (by omega)⟩

set_option maxRecDepth 100000 in
set_option maxHeartbeats 4000000 in
theorem implSwapPlaces_any (bs : List Bot) (hwf : WfC bs) (x y : Int) (hs : wfS (x, y)) (ad : Nat → Addr) (w : World) (hE : EW 7 w ad) :
    Calls Tryd.prog 18 #[.agg (ccells bs).toArray, .agg #[.int .i8 x, .int .i8 y]] w
    fun e w' => e = .returned (ccV (saL bs [(x, y)]) (saC bs [(x, y)])) ∧ Below w.heap.size w w' := by
  have HW := Lib.hid hwf
  have HS := Lib.hid hs
  have HE := Lib.hid hE
  clear hwf hs hE
  have h1 : CBlk (((w.alloc (.cells (ccells bs).toArray 31)).alloc (.cells #[.int .i8 x, .int .i8 y] 35)).alloc (.cells #[.int .u8 0, .int .i16 0, .int .u8 0, .int .i16 0, .int .u8 0, .int .i16 0, .int .u8 0, .int .i16 0, .int .u8 0, .int .i16 0, .int .u8 0, .int .i16 0, .int .u8 0, .int .i16 0, .int .u8 0, .int .i16 0, .int .u8 0, .int .i16 0, .int .u8 0, .int .i16 0, .int .u8 0, .int .i16 0, .int .u8 0, .int .i16 0] 31)) w.heap.size 31 bs := ((CBlk.new w _ bs).alloc _).alloc _
  have h2 : Blk (((w.alloc (.cells (ccells bs).toArray 31)).alloc (.cells #[.int .i8 x, .int .i8 y] 35)).alloc (.cells #[.int .u8 0, .int .i16 0, .int .u8 0, .int .i16 0, .int .u8 0, .int .i16 0, .int .u8 0, .int .i16 0, .int .u8 0, .int .i16 0, .int .u8 0, .int .i16 0, .int .u8 0, .int .i16 0, .int .u8 0, .int .i16 0, .int .u8 0, .int .i16 0, .int .u8 0, .int .i16 0, .int .u8 0, .int .i16 0, .int .u8 0, .int .i16 0] 31)) (w.heap.size + 1) 35 #[.int .i8 x, .int .i8 y] := by
    refine Blk.alloc ?_ _
    exact Blk.new' (by simp) rfl
  have h3 : CBlk (((w.alloc (.cells (ccells bs).toArray 31)).alloc (.cells #[.int .i8 x, .int .i8 y] 35)).alloc (.cells #[.int .u8 0, .int .i16 0, .int .u8 0, .int .i16 0, .int .u8 0, .int .i16 0, .int .u8 0, .int .i16 0, .int .u8 0, .int .i16 0, .int .u8 0, .int .i16 0, .int .u8 0, .int .i16 0, .int .u8 0, .int .i16 0, .int .u8 0, .int .i16 0, .int .u8 0, .int .i16 0, .int .u8 0, .int .i16 0, .int .u8 0, .int .i16 0] 31)) (w.heap.size + 1 + 1) 31 noB := CBlk.new' (by simp) rfl
  have hb : Below w.heap.size w (((w.alloc (.cells (ccells bs).toArray 31)).alloc (.cells #[.int .i8 x, .int .i8 y] 35)).alloc (.cells #[.int .u8 0, .int .i16 0, .int .u8 0, .int .i16 0, .int .u8 0, .int .i16 0, .int .u8 0, .int .i16 0, .int .u8 0, .int .i16 0, .int .u8 0, .int .i16 0, .int .u8 0, .int .i16 0, .int .u8 0, .int .i16 0, .int .u8 0, .int .i16 0, .int .u8 0, .int .i16 0, .int .u8 0, .int .i16 0, .int .u8 0, .int .i16 0] 31)) := (by repeat (first | exact Below.refl _ _ | refine Below.drew ?_ | refine Below.alloc ?_ (by simp <;> omega) _ | refine Below.setCell ?_ (by simp <;> omega) _))
  obtain ⟨W1, hW1⟩ : ∃ W1, (((w.alloc (.cells (ccells bs).toArray 31)).alloc (.cells #[.int .i8 x, .int .i8 y] 35)).alloc (.cells #[.int .u8 0, .int .i16 0, .int .u8 0, .int .i16 0, .int .u8 0, .int .i16 0, .int .u8 0, .int .i16 0, .int .u8 0, .int .i16 0, .int .u8 0, .int .i16 0, .int .u8 0, .int .i16 0, .int .u8 0, .int .i16 0, .int .u8 0, .int .i16 0, .int .u8 0, .int .i16 0, .int .u8 0, .int .i16 0, .int .u8 0, .int .i16 0] 31)) = W1 := ⟨_, rfl⟩
  rw [hW1] at h1 h2 h3 hb
  have H1 := Lib.hid h1
  have H3 := Lib.hid h3
  have HB := Lib.hid hb
  have e3 : W1.cell? ⟨w.heap.size + 1, 0, none⟩ = some (.int .i8 x) := h2.cell 0
  have e4 : W1.cell? ⟨w.heap.size + 1, 1, none⟩ = some (.int .i8 y) := h2.cell 1
  clear h1 h2 h3 hb
  go_enter Tryd.func18, Tryd.ntmps18
  go_wp2_with (refine wpList_load_row rfl 31 (.tmp 2) rfl w.heap.size rfl 31 _ (0, 0) _ H1.out Tryd.underlying31 rfl (size_of_crate Tryd.sizeCr _ HW.out.1) ?_)
  clear hW1 e3 e4
  have hR : Rs (W1.alloc (.cells #[.int .i8 x, .int .i8 y] 35)) W1.heap.size 35 scells [(x, y)] := Blk.new W1 35 #[.int .i8 x, .int .i8 y]
  have hA : Below W1.heap.size W1 (W1.alloc (.cells #[.int .i8 x, .int .i8 y] 35)) := (Below.refl _ W1).alloc (Nat.le_refl _) _
  have hBA := HB.out.trans (hA.mono HB.out.size)
  refine (implSwapAll_any bs HW.out [(x, y)] (by intro z hz; rw [List.mem_singleton.1 hz]; exact HS.out) _ _ ad _ (by simp) (hR.rd hR.lt) (HE.out.below hBA (Nat.le_refl _))).mono ?_
  rintro e w2 ⟨rfl, hb2⟩
  have HB2 : Hid (Below w.heap.size w w2) := hBA.trans (hb2.mono hBA.size)
  have L3 : Hid (CBlk w2 (w.heap.size + 1 + 1) 31 noB) := (H3.out.alloc _).below hb2 (H3.out.alloc _).lt
  have QL := Lib.hid (saL_length HW.out [(x, y)])
  clear hb2 hR hA hBA H1 H3 HB
  obtain ⟨Z, hZ⟩ : ∃ Z, saL bs [(x, y)] = Z := ⟨_, rfl⟩
  obtain ⟨cd, hcd⟩ : ∃ cd, saC bs [(x, y)] = cd := ⟨_, rfl⟩
  rw [hZ] at QL
  rw [hZ, hcd]
  have HZ := Lib.hid hZ
  have HCd := Lib.hid hcd
  clear hZ hcd
  unfold ccV
  go_wp2_with (refine wpList_store_row rfl 31 (.tmp 4) (.tmp 10) rfl (w.heap.size + 1 + 1) _ rfl rfl 31 _ L3.out (size_of_crate Tryd.sizeCr _ QL.out) (by rw [ccells_size _ QL.out]; rfl) (ccells_one _) ?_)
  exact bodyPost_ret (v := ccV Z cd) (results_ctS (v2 := .int .i64 cd) rfl _ (by rfl) _ _ 31 _ (0, 0) _ rfl (L3.out.setRow (Y := Z)) Tryd.underlying31 rfl (size_of_crate Tryd.sizeCr _ QL.out)) rfl ⟨by rw [HZ.out, HCd.out], Below.setRow HB2.out _ _ (by omega)⟩
end Go.Proofs.YtidfddemcjjgdaaDoor
