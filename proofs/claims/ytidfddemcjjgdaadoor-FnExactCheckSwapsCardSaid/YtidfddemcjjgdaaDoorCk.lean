/-
  The contracts of CheckSwaps, of the model and of the program. Condition: the crates' lengths, that their numbers and those of the swaps fit their kinds; the sentinel errors lie as the row lists them (the program's).
-/
import Derived.Test.YtidfddemcjjgdaaDoorSt
import Derived.Test.YtidfddemcjjgdaaDoorSz
import Derived.Test.YtidfddemcjjgdaaDoorQn
import Derived.Test.YtidfddemcjjgdaaDoorEc
namespace Go.Proofs.YtidfddemcjjgdaaDoor
open Go.ChangeShapes Go.WideShapes Go.ChangeAt Go.RowKit Go.Deep

/-- The code of CheckSwaps, and its answer. -/
def ckC (cs bs : List Bot) (xs : List Swp) : Int := if okC bs = true then saC cs xs else 1
def ckB (cs bs : List Bot) (xs : List Swp) : Bool := if ckC cs bs xs = 0 then decide (swTo cs xs xs.length = bs) else false
def ckV (cs bs : List Bot) (xs : List Swp) : Value := .tuple #[.bool (ckB cs bs xs), .int .i64 (ckC cs bs xs)]
theorem ck_bad {cs bs : List Bot} (xs : List Swp) (h : okC bs = false) : ckV cs bs xs = .tuple #[.bool false, .int .i64 1] := by simp [ckV, ckB, ckC, h]
theorem ck_code {cs bs : List Bot} {xs : List Swp} (h : okC bs = true) {c : Int} (hc : saC cs xs = c) (h0 : c ≠ 0) : ckV cs bs xs = .tuple #[.bool false, .int .i64 c] := by
  have e : ckC cs bs xs = c := by unfold ckC; rw [if_pos h, hc]
  unfold ckV ckB; rw [e, if_neg h0]
theorem ck_ok {cs bs : List Bot} {xs : List Swp} (h : okC bs = true) (hc : saC cs xs = 0) : ckV cs bs xs = .tuple #[.bool (decide (swTo cs xs xs.length = bs)), .int .i64 0] := by
  have e : ckC cs bs xs = 0 := by unfold ckC; rw [if_pos h, hc]
  unfold ckV ckB; rw [e, if_pos rfl]

set_option maxRecDepth 100000 in
set_option maxHeartbeats 2000000 in
theorem specCheck_any (cs bs : List Bot) (hwa : WfC cs) (hwb : WfC bs) (xs : List Swp) (hxs : ∀ x ∈ xs, wfS x) (A : Option Addr) (c : Nat) (w : World) (hl : xs.length ≤ 1048576) (hr : Rd w w.heap.size scells A xs) :
    Calls Tryd.prog 30 #[.agg (ccells cs).toArray, .agg (ccells bs).toArray, .slice A xs.length c] w fun e w' => e = .returned (ckV cs bs xs) ∧ Below w.heap.size w w' := by
  have HW := Lib.hid hwa
  have HW2 := Lib.hid hwb
  have HX := Lib.hid hxs
  have HR := Lib.hid hr
  clear hwa hwb hr hxs
  have h1 : CBlk ((w.alloc (.cells (ccells cs).toArray 31)).alloc (.cells (ccells bs).toArray 31)) w.heap.size 31 cs := (CBlk.new w _ cs).alloc _
  have h2 : CBlk ((w.alloc (.cells (ccells cs).toArray 31)).alloc (.cells (ccells bs).toArray 31)) (w.heap.size + 1) 31 bs := CBlk.new' (by simp) rfl
  have hb : Below w.heap.size w ((w.alloc (.cells (ccells cs).toArray 31)).alloc (.cells (ccells bs).toArray 31)) := (by repeat (first | exact Below.refl _ _ | refine Below.drew ?_ | refine Below.alloc ?_ (by simp <;> omega) _ | refine Below.setCell ?_ (by simp <;> omega) _))
  obtain ⟨W0, hW0⟩ : ∃ W0, ((w.alloc (.cells (ccells cs).toArray 31)).alloc (.cells (ccells bs).toArray 31)) = W0 := ⟨_, rfl⟩
  rw [hW0] at h1 h2 hb
  have H1 := Lib.hid h1
  have H2 := Lib.hid h2
  have H3 := Lib.hid hb
  clear h1 h2 hb
  go_enter Tryd.func30, Tryd.ntmps30
  go_wp2_with fail
  clear hW0
  refine (l01Ok_any bs HW2.out _ _ H2.out).mono ?_
  rintro e w1 ⟨rfl, hb⟩
  have J1 : Hid (CBlk w1 w.heap.size 31 cs) := H1.out.below hb H1.out.lt
  have J2 : Hid (CBlk w1 (w.heap.size + 1) 31 bs) := H2.out.below hb H2.out.lt
  have J3 : Hid (Below w.heap.size w w1) := H3.out.trans (hb.mono H3.out.size)
  clear hb H1 H2 H3
  cases hv : okC bs
  · have HN := Lib.hid (ck_bad (cs := cs) xs hv)
    clear hv
    go_wp2
    go_ret2
    exact ⟨by rw [HN.out]; first | done | rfl, J3.out⟩
  · have Hv := Lib.hid hv
    clear hv
    go_wp2_with (refine wpList_load_row rfl 31 (.tmp 3) rfl w.heap.size rfl 31 _ (0, 0) _ J1.out Tryd.underlying31 rfl (size_of_crate Tryd.sizeCr _ HW.out.1) ?_)
    refine (l03All_any cs HW.out xs HX.out A c _ hl (HR.out.keep J3.out)).mono ?_
    rintro e w2 ⟨rfl, hb⟩
    have I2 : Hid (CBlk w2 (w.heap.size + 1) 31 bs) := J2.out.below hb J2.out.lt
    have I3 : Hid (Below w.heap.size w w2) := J3.out.trans (hb.mono J3.out.size)
    clear hb J1 J2 J3
    have hXl := saL_wf HW.out xs
    have hn0 : saC cs xs ≠ 0 → ckV cs bs xs = .tuple #[.bool false, .int .i64 (saC cs xs)] := fun h => ck_code Hv.out rfl h
    have hn1 : saC cs xs = 0 → ckV cs bs xs = .tuple #[.bool (decide (saL cs xs = bs)), .int .i64 0] := fun h => by rw [saL_of h]; exact ck_ok Hv.out h
    obtain ⟨X, hX⟩ : ∃ X, saL cs xs = X := ⟨_, rfl⟩
    obtain ⟨cd, hcd⟩ : ∃ cd, saC cs xs = cd := ⟨_, rfl⟩
    rw [hX] at hXl hn1
    rw [hcd] at hn0 hn1
    rw [hX, hcd]
    have HXl := Lib.hid hXl
    have HN0 := Lib.hid hn0
    have HN1 := Lib.hid hn1
    clear hX hcd hXl hn0 hn1
    unfold ccV
    have h4 : CBlk (w2.alloc (.cells #[.int .u8 0, .int .i16 0, .int .u8 0, .int .i16 0, .int .u8 0, .int .i16 0, .int .u8 0, .int .i16 0, .int .u8 0, .int .i16 0, .int .u8 0, .int .i16 0, .int .u8 0, .int .i16 0, .int .u8 0, .int .i16 0, .int .u8 0, .int .i16 0, .int .u8 0, .int .i16 0, .int .u8 0, .int .i16 0, .int .u8 0, .int .i16 0] 31)) w2.heap.size 31 noB := CBlk.new' rfl rfl
    have h5 : CBlk (w2.alloc (.cells #[.int .u8 0, .int .i16 0, .int .u8 0, .int .i16 0, .int .u8 0, .int .i16 0, .int .u8 0, .int .i16 0, .int .u8 0, .int .i16 0, .int .u8 0, .int .i16 0, .int .u8 0, .int .i16 0, .int .u8 0, .int .i16 0, .int .u8 0, .int .i16 0, .int .u8 0, .int .i16 0, .int .u8 0, .int .i16 0, .int .u8 0, .int .i16 0] 31)) (w.heap.size + 1) 31 bs := I2.out.alloc _
    have h6 : Below w.heap.size w (w2.alloc (.cells #[.int .u8 0, .int .i16 0, .int .u8 0, .int .i16 0, .int .u8 0, .int .i16 0, .int .u8 0, .int .i16 0, .int .u8 0, .int .i16 0, .int .u8 0, .int .i16 0, .int .u8 0, .int .i16 0, .int .u8 0, .int .i16 0, .int .u8 0, .int .i16 0, .int .u8 0, .int .i16 0, .int .u8 0, .int .i16 0, .int .u8 0, .int .i16 0] 31)) := I3.out.alloc I3.out.size _
    have hne : w.heap.size + 1 < w2.heap.size := I2.out.lt
    obtain ⟨W3, hW3⟩ : ∃ W3, w2.alloc (.cells #[.int .u8 0, .int .i16 0, .int .u8 0, .int .i16 0, .int .u8 0, .int .i16 0, .int .u8 0, .int .i16 0, .int .u8 0, .int .i16 0, .int .u8 0, .int .i16 0, .int .u8 0, .int .i16 0, .int .u8 0, .int .i16 0, .int .u8 0, .int .i16 0, .int .u8 0, .int .i16 0, .int .u8 0, .int .i16 0, .int .u8 0, .int .i16 0] 31) = W3 := ⟨_, rfl⟩
    rw [hW3] at h4 h5 h6
    have G4 := Lib.hid h4
    have G5 := Lib.hid (h5.rowOff (B' := w2.heap.size) (by omega) (ccells X).toArray)
    have G6 := Lib.hid (Below.setRow h6 w2.heap.size (ccells X).toArray (by omega))
    have G7 : Hid (CBlk (W3.setRow w2.heap.size (ccells X).toArray) w2.heap.size 31 X) := h4.setRow
    clear h4 h5 h6 hne
    by_cases h0 : cd = 0
    · subst h0
      have HN := Lib.hid (HN1.out rfl)
      clear HN0 HN1
      go_wp2_with (first
        | (refine wpList_store_row rfl 31 (.tmp 8) (.tmp 16) rfl w2.heap.size (ccells X).toArray rfl rfl 31 _ G4.out (size_of_crate Tryd.sizeCr _ HXl.out.1) (by rw [ccells_size _ HXl.out.1]; rfl) (ccells_one _) ?_)
        | (refine wpList_load_row_g (by rfl) 31 (.tmp 8) rfl w2.heap.size rfl 31 _ (0, 0) _ G7.out Tryd.underlying31 rfl (size_of_crate Tryd.sizeCr _ HXl.out.1) ?_)
        | (refine wpList_load_row_g (by rfl) 31 (.tmp 4) rfl (w.heap.size + 1) rfl 31 _ (0, 0) _ G5.out Tryd.underlying31 rfl (size_of_crate Tryd.sizeCr _ HW2.out.1) ?_)
        | (refine wpList_eqlCrate (by rfl) (.tmp 21) (.tmp 22) rfl X bs HXl.out.1 HW2.out.1 rfl rfl ?_))
      go_ret2
      exact ⟨by rw [HN.out]; first | done | rfl, G6.out⟩
    · have hcd : (cd == 0) = false := by simpa using h0
      have HN := Lib.hid (HN0.out h0)
      clear HN0 HN1
      go_wp2_with (refine wpList_store_row rfl 31 (.tmp 8) (.tmp 16) rfl w2.heap.size (ccells X).toArray rfl rfl 31 _ G4.out (size_of_crate Tryd.sizeCr _ HXl.out.1) (by rw [ccells_size _ HXl.out.1]; rfl) (ccells_one _) ?_)
      go_ret2
      exact ⟨by rw [HN.out]; first | done | rfl, G6.out⟩

set_option maxRecDepth 100000 in
set_option maxHeartbeats 4000000 in
theorem implCheck_any (cs bs : List Bot) (hwa : WfC cs) (hwb : WfC bs) (xs : List Swp) (hxs : ∀ x ∈ xs, wfS x) (A : Option Addr) (c : Nat) (ad : Nat → Addr) (w : World) (hl : xs.length ≤ 1048576) (hr : Rd w w.heap.size scells A xs) (hE : EW 7 w ad) :
    Calls Tryd.prog 31 #[.agg (ccells cs).toArray, .agg (ccells bs).toArray, .slice A xs.length c] w fun e w' => e = .returned (ckV cs bs xs) ∧ Below w.heap.size w w' := by
  have HE := Lib.hid hE
  clear hE
  have HW := Lib.hid hwa
  have HW2 := Lib.hid hwb
  have HX := Lib.hid hxs
  have HR := Lib.hid hr
  clear hwa hwb hr hxs
  have h1 : CBlk ((w.alloc (.cells (ccells cs).toArray 31)).alloc (.cells (ccells bs).toArray 31)) w.heap.size 31 cs := (CBlk.new w _ cs).alloc _
  have h2 : CBlk ((w.alloc (.cells (ccells cs).toArray 31)).alloc (.cells (ccells bs).toArray 31)) (w.heap.size + 1) 31 bs := CBlk.new' (by simp) rfl
  have hb : Below w.heap.size w ((w.alloc (.cells (ccells cs).toArray 31)).alloc (.cells (ccells bs).toArray 31)) := (by repeat (first | exact Below.refl _ _ | refine Below.drew ?_ | refine Below.alloc ?_ (by simp <;> omega) _ | refine Below.setCell ?_ (by simp <;> omega) _))
  obtain ⟨W0, hW0⟩ : ∃ W0, ((w.alloc (.cells (ccells cs).toArray 31)).alloc (.cells (ccells bs).toArray 31)) = W0 := ⟨_, rfl⟩
  rw [hW0] at h1 h2 hb
  have H1 := Lib.hid h1
  have H2 := Lib.hid h2
  have H3 := Lib.hid hb
  clear h1 h2 hb
  go_enter Tryd.func31, Tryd.ntmps31
  go_wp2_with (first
    | (refine wpList_load_row rfl 31 (.tmp 3) rfl w.heap.size rfl 31 _ (0, 0) _ H1.out Tryd.underlying31 rfl (size_of_crate Tryd.sizeCr _ HW.out.1) ?_)
    | (refine wpList_load_row rfl 31 (.tmp 4) rfl (w.heap.size + 1) rfl 31 _ (0, 0) _ H2.out Tryd.underlying31 rfl (size_of_crate Tryd.sizeCr _ HW2.out.1) ?_)
    | (refine wpList_twoCrates rfl 61 31 (.tmp 9) (.tmp 10) rfl cs bs HW.out.1 HW2.out.1 rfl rfl Tryd.underlying61 Tryd.sizeCr Tryd.zeroCr ?_))
  clear hW0
  have hA : Below W0.heap.size W0 (W0.alloc (.cells (ccells (cs ++ bs)).toArray 31)) := (Below.refl _ W0).alloc (Nat.le_refl _) _
  have hBA := H3.out.trans (hA.mono H3.out.size)
  have hrd := rd_two (B := (W0.alloc (.cells (ccells (cs ++ bs)).toArray 31)).heap.size) ⟨cs, HW.out⟩ ⟨bs, HW2.out⟩ (CBlk.new W0 31 (cs ++ bs)) (by simp)
  refine (checkCrates_any [⟨cs, HW.out⟩, ⟨bs, HW2.out⟩] _ _ ad _ (by simp) hrd (HE.out.below hBA (Nat.le_refl _))).mono ?_
  rintro e w1 ⟨rfl, hb⟩
  have hb := hA.trans (hb.mono hA.size)
  have J1 : Hid (CBlk w1 w.heap.size 31 cs) := H1.out.below hb H1.out.lt
  have J2 : Hid (CBlk w1 (w.heap.size + 1) 31 bs) := H2.out.below hb H2.out.lt
  have J3 : Hid (Below w.heap.size w w1) := H3.out.trans (hb.mono H3.out.size)
  clear hb hA hBA hrd H1 H2 H3
  have hok : okL [(⟨cs, HW.out⟩ : Crt), ⟨bs, HW2.out⟩] = (okC cs && okC bs) := by simp [okL]
  rw [hok]
  clear hok
  have hp0 := chkV_isE ad (okC cs && okC bs)
  have hp1 := csV_isE ad xs
  obtain ⟨v0, hv0⟩ : ∃ v, chkV ad (okC cs && okC bs) = v := ⟨_, rfl⟩
  rw [hv0] at hp0 ⊢
  have V0 := Lib.hid hv0
  have P0 := Lib.hid hp0
  have P1 := Lib.hid hp1
  clear hv0 hp0 hp1
  go_wp2_with fail
  refine (checkSwaps_any xs HX.out A c ad _ hl (HR.out.keep J3.out) (HE.out.below J3.out (Nat.le_refl _))).mono ?_
  rintro e w2 ⟨rfl, hb⟩
  have I1 : Hid (CBlk w2 w.heap.size 31 cs) := J1.out.below hb J1.out.lt
  have I2 : Hid (CBlk w2 (w.heap.size + 1) 31 bs) := J2.out.below hb J2.out.lt
  have I3 : Hid (Below w.heap.size w w2) := J3.out.trans (hb.mono J3.out.size)
  clear hb J1 J2 J3
  obtain ⟨v1, hv1⟩ : ∃ v, csV ad xs = v := ⟨_, rfl⟩
  rw [hv1] at P1 ⊢
  have V1 := Lib.hid hv1
  clear hv1
  go_wp2_with (refine wpList_twoErrs rfl (.tmp 12) (.tmp 14) rfl P0.out P1.out rfl rfl ?_)
  have q0 := new_cell2 w2 v0 v1 90
  have hB3 : Below w.heap.size w (w2.alloc (.cells #[v0, v1] 90)) := I3.out.alloc I3.out.size _
  have hK1 : CBlk (w2.alloc (.cells #[v0, v1] 90)) w.heap.size 31 cs := I1.out.alloc _
  have hK2 : CBlk (w2.alloc (.cells #[v0, v1] 90)) (w.heap.size + 1) 31 bs := I2.out.alloc _
  refine (first2_any P0.out P1.out _ _ _ q0.1 q0.2).mono ?_
  rintro e w3 ⟨rfl, hw3⟩
  rw [hw3] at hB3 hK1 hK2
  have HB3 := Lib.hid hB3
  have K1 := Lib.hid hK1
  have K2 := Lib.hid hK2
  clear q0 hB3 hK1 hK2 hw3 I1 I2 I3
  cases hok : (okC cs && okC bs)
  · have hv : firstV v0 v1 = .iface 202 (.pointer (some (ad 5))) := by rw [← V0.out, hok]; rfl
    rw [hv]
    have hn : ckV cs bs xs = .tuple #[.bool false, .int .i64 1] := by
      cases hb : okC bs
      · exact ck_bad xs hb
      · exact ck_code hb (saC_bad xs (by rw [hb, Bool.and_true] at hok; exact hok)) (by decide)
    have HN := Lib.hid hn
    clear hv hn hok V0 V1
    go_wp2_with fail
    refine (codeOf_5 ((HE.out.below HB3.out (Nat.le_refl _)))).mono ?_
    rintro e w4 ⟨rfl, rfl⟩
    go_wp2
    go_ret2
    exact ⟨by rw [HN.out]; first | done | rfl, HB3.out⟩
  obtain ⟨hoka, hokb⟩ := Bool.and_eq_true_iff.1 hok
  have Hok := Lib.hid hoka
  have Hokb := Lib.hid hokb
  have hf : firstV v0 v1 = v1 := by rw [← V0.out, hok]; rfl
  rw [hf]
  clear hok hoka hokb hf V0
  by_cases hlong : 60 < xs.length
  · have hv : v1 = .iface 202 (.pointer (some (ad 1))) := by rw [← V1.out, csV_long ad hlong]; rfl
    rw [hv]
    have HN := Lib.hid (ck_code Hokb.out (saC_long Hok.out hlong) (by decide))
    clear hv V1
    go_wp2_with fail
    refine (codeOf_1 ((HE.out.below HB3.out (Nat.le_refl _)).less (by omega))).mono ?_
    rintro e w4 ⟨rfl, rfl⟩
    go_wp2
    go_ret2
    exact ⟨by rw [HN.out]; first | done | rfl, HB3.out⟩
  cases hall : xs.all canS
  · have hv : v1 = .iface 202 (.pointer (some (ad 0))) := by rw [← V1.out, csV_no ad hlong hall]; rfl
    rw [hv]
    have HN := Lib.hid (ck_code Hokb.out (saC_no Hok.out hlong hall) (by decide))
    clear hv hall V1
    go_wp2_with fail
    refine (codeOf_0 ((HE.out.below HB3.out (Nat.le_refl _)).less (by omega))).mono ?_
    rintro e w4 ⟨rfl, rfl⟩
    go_wp2
    go_ret2
    exact ⟨by rw [HN.out]; first | done | rfl, HB3.out⟩
  · have hv : v1 = .nilIface := by rw [← V1.out, csV_ok ad hlong hall]
    rw [hv]
    have HN := Lib.hid (ck_ok (bs := bs) Hokb.out (saC_ok Hok.out hlong hall))
    have HA := Lib.hid hall
    have ZL := Lib.hid ((swTo_wf HW.out hall xs.length).1)
    clear hv hall V1 P0 P1
    obtain ⟨Z, hZ⟩ : ∃ Z, swTo cs xs xs.length = Z := ⟨_, rfl⟩
    have HC : Hid (∀ w, Rd w w.heap.size scells A xs → Calls Tryd.prog 68 #[.agg (ccells cs).toArray, .slice A xs.length c] w fun e w' => e = .returned (.agg (ccells Z).toArray) ∧ Below w.heap.size w w') := by
      have := fun w hr => swappedAll_any cs HW.out xs HA.out A c w hl hr
      rw [hZ] at this; exact this
    rw [hZ] at HN ZL
    clear hZ
    go_wp2_with fail
    refine wp_region_held_drew (S := fun w' => Below w3.heap.size w3 w') (by kernel_rfl) (Below.refl _ _).drew (fun hHeld => ?_)
    refine' wpAnyH_take (i := 0) (v := _) rfl (by kernel_rfl) (by kernel_rfl) (by kernel_rfl) (fun _ _ _ h => h) (yieldsIf_load_mid (by rfl) 31 (.tmp 3) rfl w.heap.size 0 rfl (ccells cs) _ (fun w h => CBlk.range (K1.out.below h K1.out.lt)) Tryd.underlying31 rfl (size_of_crate Tryd.sizeCr _ HW.out.1)) (by assumption) ?_
    try simp only [Act.put, List.getElem_toArray, List.getElem_cons_zero, List.getElem_cons_succ, List.setIfInBounds_toArray, List.set_cons_zero, List.set_cons_succ]
    refine wpAnyH_take (i := 1) (v := .slice A xs.length c) rfl (by kernel_rfl) (by kernel_rfl) (by kernel_rfl) (fun _ _ _ h => h) (Or.inl ⟨by rfl, fun w' h => by go_simp⟩) (by assumption) ?_
    try simp only [Act.put, List.getElem_toArray, List.getElem_cons_zero, List.getElem_cons_succ, List.setIfInBounds_toArray, List.set_cons_zero, List.set_cons_succ]
    refine' wpAnyH_take (i := 3) (v := _) rfl (by kernel_rfl) (by kernel_rfl) (by kernel_rfl) (fun _ _ _ h => h) (yieldsIf_load_mid (by rfl) 31 (.tmp 4) rfl (w.heap.size + 1) 0 rfl (ccells bs) _ (fun w h => CBlk.range (K2.out.below h K2.out.lt)) Tryd.underlying31 rfl (size_of_crate Tryd.sizeCr _ HW2.out.1)) (by assumption) ?_
    try simp only [Act.put, List.getElem_toArray, List.getElem_cons_zero, List.getElem_cons_succ, List.setIfInBounds_toArray, List.set_cons_zero, List.set_cons_succ]
    obtain ⟨D0, hD0⟩ : ∃ D0, w3.drew = D0 := ⟨_, rfl⟩
    rw [hD0] at hHeld ⊢
    clear hD0
    refine wpAnyH_ready (rs := [2]) (by kernel_rfl) (by simp) ?_
    refine AllReadyH.cons rfl (fun K hK => ?_) AllReadyH.nil
    refine if_wanted rfl ?_
    go_simp
    refine (HC.out _ ((HR.out.keep (HB3.out.trans (hHeld.mono HB3.out.size))))).mono ?_
    rintro e w5 ⟨rfl, hb⟩
    have hH2 : Below w3.heap.size w3 w5 := hHeld.trans (hb.mono hHeld.size)
    clear hb hHeld
    dsimp only
    refine hK.out _ _ hH2 (fun hHeld => ?_)
    clear hK K hH2
    try simp only [Act.put, List.getElem_toArray, List.getElem_cons_zero, List.getElem_cons_succ, List.setIfInBounds_toArray, List.set_cons_zero, List.set_cons_succ]
    refine wpAnyH_ready (rs := [4]) (by kernel_rfl) (by simp) ?_
    refine AllReadyH.cons rfl (fun K hK => ?_) AllReadyH.nil
    refine if_wanted rfl (wp_eqlCrate (.tmp 23) (.tmp 24) rfl Z bs ZL.out HW2.out.1 rfl rfl ?_)
    refine hK.out _ _ hHeld (fun hHeld => ?_)
    clear hK K
    try simp only [Act.put, List.getElem_toArray, List.getElem_cons_zero, List.getElem_cons_succ, List.setIfInBounds_toArray, List.set_cons_zero, List.set_cons_succ]
    refine wpAnyH_ready (rs := [5]) (by kernel_rfl) (by simp) ?_
    refine AllReadyH.cons rfl (fun K hK => ?_) AllReadyH.nil
    refine if_wanted rfl ?_
    refine wp_assign0 rfl rfl ?_
    refine hK.out _ _ hHeld (fun hHeld => ?_)
    clear hK K
    try simp only [Act.put, List.getElem_toArray, List.getElem_cons_zero, List.getElem_cons_succ, List.setIfInBounds_toArray, List.set_cons_zero, List.set_cons_succ]
    refine wpAnyH_ready (rs := [6]) (by kernel_rfl) (by simp) ?_
    refine AllReadyH.cons rfl (fun K hK => ?_) AllReadyH.nil
    refine if_wanted rfl ?_
    refine wp_assign0 rfl rfl ?_
    refine hK.out _ _ hHeld (fun hHeld => ?_)
    clear hK K
    try simp only [Act.put, List.getElem_toArray, List.getElem_cons_zero, List.getElem_cons_succ, List.setIfInBounds_toArray, List.set_cons_zero, List.set_cons_succ]
    refine wpAnyH_done (by kernel_rfl) ?_ _
    try simp only [Act.put, List.getElem_toArray, List.getElem_cons_zero, List.getElem_cons_succ, List.setIfInBounds_toArray, List.set_cons_zero, List.set_cons_succ]
    have HB5 := Lib.hid (HB3.out.trans (hHeld.mono HB3.out.size))
    clear hHeld
    go_wp2
    go_ret2
    exact ⟨by rw [HN.out]; first | done | rfl, HB5.out⟩
end Go.Proofs.YtidfddemcjjgdaaDoor
