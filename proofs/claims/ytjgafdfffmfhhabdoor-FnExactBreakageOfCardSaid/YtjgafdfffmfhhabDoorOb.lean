/-
  OutAt: the program: checkPrices, depositOf, OutAt. Condition: numbers fit their kinds; the sentinel errors lie as the row lists them.
-/
import Derived.Test.YtjgafdfffmfhhabDoorOa
import Derived.Test.YtjgafdfffmfhhabDoorRg
namespace Go.Proofs.YtjgafdfffmfhhabDoor
open Go.ChangeShapes Go.WideShapes Go.ChangeAt Go.RowKit Go.Deep

theorem rowP2 {w : World} {b o k : Nat} {x : Pri} (h : w.rangeAt b (o + k * 2) (pcells x)) : w.cell? ⟨b, o + k * 2, none⟩ = some (.int .i16 x.bo) ∧ w.cell? ⟨b, o + k * 2 + 1, none⟩ = some (.int .i16 x.ct) :=
  ⟨by simpa using h 0 _ rfl, h 1 _ rfl⟩
set_option maxRecDepth 100000 in
set_option maxHeartbeats 4000000 in
theorem checkEachP_any (xs : List Pri) (hwf : ∀ x ∈ xs, wfP x) (A : Option Addr) (c : Nat) (ad : Nat → Addr) (w : World) (hl : xs.length ≤ 1048576) (hr : Rd w w.heap.size pcells A xs) (hE : EW 7 w ad) :
    Calls Tryd.prog 49 #[.slice A xs.length c, .func (.func 50) #[] #[]] w fun e w' => e = .returned (erO ad (chk 5 (xs.all prOk))) ∧ Below w.heap.size w w' := by
  have HR := Lib.hid hr
  have HE := Lib.hid hE
  have HW := Lib.hid hwf
  clear hr hE hwf
  go_enter Tryd.func49, Tryd.ntmps49
  go_wp2_with fail
  go_loopw [9] (fun i wr => ∃ (k : Nat), k ≤ xs.length ∧ i = .int .i64 k ∧ AllTo prOk xs k ∧ Below w.heap.size w wr) (fun i _ => xs.length - (intOf i).toNat)
  case atStart => exact ⟨0, by omega, rfl, AllTo.zero _ _, Below.refl _ _⟩
  case round =>
    obtain ⟨k, hk, rfl, hT, hB⟩ := hrel
    have HT := Lib.hid hT
    have HB := Lib.hid hB
    clear hT hB
    by_cases hlt : k < xs.length
    · obtain ⟨⟨bo, ct⟩, hx⟩ : ∃ x, xs[k]? = some x := ⟨_, List.getElem?_eq_getElem hlt⟩
      obtain ⟨b, o, rfl, hbl, hrow⟩ := (HR.out.below (Nat.le_refl _) HB.out).at_ pcells_length hx
      obtain ⟨e0, e1⟩ := rowP2 hrow
      simp only at e0 e1
      have HX := Lib.hid hx
      have hk0 : (0 : Int) ≤ (k : Int) := Int.natCast_nonneg _
      have hk8 : (k : Int) < xs.length := by omega
      have HA : Hid (Below w.heap.size w (wr.alloc (.cells #[.int .i16 bo, .int .i16 ct] 29))) := HB.out.alloc HB.out.size _
      clear hx hrow
      go_wp2_with fail
      refine (isPrices_any ⟨bo, ct⟩ (HW.out _ (List.mem_of_getElem? HX.out)) _).mono ?_
      rintro e w1 ⟨rfl, hb1⟩
      have HB1 : Hid (Below w.heap.size w w1) := HA.out.trans (hb1.mono HA.out.size)
      have c0 : w1.cell? ⟨6, 0, none⟩ = some (.iface 124 (.pointer (some (ad 5)))) := ((HE.out).below HB1.out (Nat.le_refl _)).cell 5 (by omega)
      clear hb1 HA e0 e1
      cases hv : prOk ⟨bo, ct⟩
      · have HV := Lib.hid hv
        clear hv
        go_wp2
        go_ret
        exact ⟨by rw [all_no HX.out HV.out]; rfl, HB1.out⟩
      · have HV := Lib.hid hv
        clear hv
        go_wp2
        go_roundw
        case rel => exact ⟨k + 1, by omega, by go_num, HT.out.step HX.out HV.out, HB1.out⟩
        case measure => simp [intOf]; omega
    · obtain rfl : k = xs.length := by omega
      go_wp2
      go_ret
      exact ⟨by rw [HT.out.all]; rfl, HB.out⟩
set_option maxHeartbeats 2000000 in
theorem checkPrices_any (p : Pri) (hp : wfP p) (ad : Nat → Addr) (w : World) (hE : EW 7 w ad) :
    Calls Tryd.prog 30 #[.agg (pcells p).toArray] w fun e w' => e = .returned (erO ad (chk 5 (prOk p))) ∧ Below w.heap.size w w' := by
  obtain ⟨bo, ct⟩ := p
  show Calls Tryd.prog 30 #[.agg #[.int .i16 bo, .int .i16 ct]] w _
  obtain ⟨W1, hW1⟩ : ∃ W, w.alloc (.cells #[.int .i16 bo, .int .i16 ct] 29) = W := ⟨_, rfl⟩
  have hb1 : Below w.heap.size w W1 := by rw [← hW1]; exact (Below.refl _ _).alloc (Nat.le_refl _) _
  have hk1 : Blk W1 w.heap.size 29 #[.int .i16 bo, .int .i16 ct] := by rw [← hW1]; exact Blk.new w _ _
  have k0 : W1.cell? ⟨w.heap.size, 0, none⟩ = some (.int .i16 bo) := hk1.cell 0
  have k1 : W1.cell? ⟨w.heap.size, 1, none⟩ = some (.int .i16 ct) := hk1.cell 1
  have hb2 : Below w.heap.size w (W1.alloc (.cells #[.int .i16 bo, .int .i16 ct] 29)) := hb1.alloc hb1.size _
  have hrd : Rd (W1.alloc (.cells #[.int .i16 bo, .int .i16 ct] 29)) (W1.alloc (.cells #[.int .i16 bo, .int .i16 ct] 29)).heap.size pcells (some ⟨W1.heap.size, 0, none⟩) [(⟨bo, ct⟩ : Pri)] := fun _ => ⟨W1.heap.size, 0, rfl, by simp, fun j v hv => by
    rw [Nat.zero_add, (Blk.new W1 29 #[.int .i16 bo, .int .i16 ct]).cell]; simpa [pcells] using hv⟩
  have HCe := Lib.hid (checkEachP_any [(⟨bo, ct⟩ : Pri)] (fun x hx => by rw [List.mem_singleton.1 hx]; exact hp) _ 1 ad _ (by simp) hrd (hE.below hb2 (Nat.le_refl _)))
  have HB2 := Lib.hid hb2
  clear hb1 hk1 hb2 hrd hE
  go_enter Tryd.func30, Tryd.ntmps30
  go_wp2_with fail
  clear hW1
  refine HCe.out.mono ?_
  rintro e w3 ⟨rfl, hb⟩
  have HB3 : Hid (Below w.heap.size w w3) := HB2.out.trans (hb.mono HB2.out.size)
  rw [show ([(⟨bo, ct⟩ : Pri)] : List Pri).all prOk = prOk ⟨bo, ct⟩ from by simp]
  obtain ⟨v, hv⟩ : ∃ v, erO ad (chk 5 (prOk ⟨bo, ct⟩)) = v := ⟨_, rfl⟩
  have HV := Lib.hid hv
  rw [hv]
  clear hb hv k0 k1
  go_wp2
  go_ret
  exact ⟨by (rw [HV.out]; first | done | rfl), HB3.out⟩
set_option maxHeartbeats 2000000 in
theorem depositOf_any (p : Pri) (hv : prOk p = true) (h : Hol) (hf : 0 ≤ h.fu ∧ h.fu ≤ 1000000) (he : 0 ≤ h.em ∧ h.em ≤ 1000000) (hc : 0 ≤ h.cr ∧ h.cr ≤ 1000000) (w : World) :
    Calls Tryd.prog 33 #[.agg (pcells p).toArray, .agg (hcells h).toArray] w fun e w' => e = .returned (.int .i64 (dep p h)) ∧ Below w.heap.size w w' := by
  obtain ⟨bo, ct⟩ := p
  obtain ⟨fu, em, cr, br, mo⟩ := h
  obtain ⟨hbo, hct⟩ := prOk_iff.1 hv
  obtain ⟨s, q, t, d, hs, hq, ht, hd, ⟨s1, s2⟩, ⟨q1, q2⟩, ⟨t1, t2⟩, ⟨d1, d2⟩, -, hdep⟩ := dep_facts hv hf he hc
  simp only at hf he hc hbo hct hs hq ht hd
  have HDep := Lib.hid (hdep br mo)
  have x1 : IntKind.i64.wrap bo = bo := IntWalk.i64_in _ ⟨by omega, by omega⟩
  have x2 : wrap64 bo = bo := IntWalk.wrap64_in _ ⟨by omega, by omega⟩
  have x3 : IntKind.i64.wrap ct = ct := IntWalk.i64_in _ ⟨by omega, by omega⟩
  have x4 : wrap64 ct = ct := IntWalk.wrap64_in _ ⟨by omega, by omega⟩
  clear hf he hc hbo hct hdep hv
  show Calls Tryd.prog 33 #[.agg #[.int .i16 bo, .int .i16 ct], .agg #[.int .i64 fu, .int .i64 em, .int .i64 cr, .int .i64 br, .int .i64 mo]] w _
  go_enter Tryd.func33, Tryd.ntmps33
  go_wp2
  go_ret
  exact ⟨by (rw [HDep.out]; first | done | rfl), (by repeat (first | exact Below.refl _ _ | refine Below.drew ?_ | refine Below.alloc ?_ (by simp <;> omega) _ | refine Below.setCell ?_ (by simp <;> omega) _))⟩
theorem rd_hol1 (w : World) (x : Hol) : Rd (w.alloc (.cells (hcells x).toArray 31)) (w.alloc (.cells (hcells x).toArray 31)).heap.size hcells (some ⟨w.heap.size, 0, none⟩) [x] := fun _ => ⟨w.heap.size, 0, rfl, by simp, fun j v hv => by
  rw [Nat.zero_add, (Blk.new w 31 (hcells x).toArray).cell]; simpa using hv⟩
set_option maxRecDepth 100000 in
set_option maxHeartbeats 8000000 in
theorem implOutAt_any (p : Pri) (hp : wfP p) (h : Hol) (hh : wfH h) (ad : Nat → Addr) (w : World) (hE : EW 7 w ad) :
    Calls Tryd.prog 10 #[.agg (pcells p).toArray, .agg (hcells h).toArray] w fun e w' => e = .returned (.tuple #[.int .i64 (otN p h), .int .i64 (otC p h)]) ∧ Below w.heap.size w w' := by
  obtain ⟨bo, ct⟩ := p
  obtain ⟨fu, em, cr, br, mo⟩ := h
  show Calls Tryd.prog 10 #[.agg #[.int .i16 bo, .int .i16 ct], .agg #[.int .i64 fu, .int .i64 em, .int .i64 cr, .int .i64 br, .int .i64 mo]] w _
  obtain ⟨W1, hW1⟩ : ∃ W, w.alloc (.cells #[.int .i16 bo, .int .i16 ct] 29) = W := ⟨_, rfl⟩
  obtain ⟨W2, hW2⟩ : ∃ W, W1.alloc (.cells #[.int .i64 fu, .int .i64 em, .int .i64 cr, .int .i64 br, .int .i64 mo] 31) = W := ⟨_, rfl⟩
  have hb1 : Below w.heap.size w W1 := by rw [← hW1]; exact (Below.refl _ _).alloc (Nat.le_refl _) _
  have hb2 : Below w.heap.size w W2 := by rw [← hW2]; exact hb1.alloc hb1.size _
  have hk1 : Blk W1 w.heap.size 29 #[.int .i16 bo, .int .i16 ct] := by rw [← hW1]; exact Blk.new w _ _
  have HK2 : Hid (Blk W2 w.heap.size 29 #[.int .i16 bo, .int .i16 ct]) := by show Blk _ _ _ _; rw [← hW2]; exact Blk.keep hk1 ((Below.refl _ _).alloc (Nat.le_refl _) _)
  have HH2 : Hid (Blk W2 W1.heap.size 31 #[.int .i64 fu, .int .i64 em, .int .i64 cr, .int .i64 br, .int .i64 mo]) := by show Blk _ _ _ _; rw [← hW2]; exact Blk.new W1 _ _
  have HB2 := Lib.hid hb2
  have HE := Lib.hid hE
  have HP := Lib.hid hp
  have HHw := Lib.hid hh
  obtain ⟨v0, hv0⟩ : ∃ v, erO ad (chk 5 (prOk ⟨bo, ct⟩)) = v := ⟨_, rfl⟩
  obtain ⟨v1, hv1⟩ : ∃ v, erO ad (chk 0 (hoOk ⟨fu, em, cr, br, mo⟩)) = v := ⟨_, rfl⟩
  have P0 : Hid (isE v0) := by show isE v0; rw [← hv0]; exact erO_isE _ _
  have P1 : Hid (isE v1) := by show isE v1; rw [← hv1]; exact erO_isE _ _
  have HV0 := Lib.hid hv0
  have HV1 := Lib.hid hv1
  have HC0 : Hid (∀ z, EW 7 z ad → Calls Tryd.prog 30 #[.agg #[.int .i16 bo, .int .i16 ct]] z fun e w' => e = .returned v0 ∧ Below z.heap.size z w') := fun z hz => by rw [← hv0]; exact checkPrices_any ⟨bo, ct⟩ HP.out ad z hz
  have HC1 : Hid (∀ z B, EW 7 z ad → Rd z z.heap.size hcells (some ⟨B, 0, none⟩) [(⟨fu, em, cr, br, mo⟩ : Hol)] → Calls Tryd.prog 31 #[.slice (some ⟨B, 0, none⟩) 1 1] z fun e w' => e = .returned v1 ∧ Below z.heap.size z w') := fun z B hz hrd => by
    have := checkHoldings_any [(⟨fu, em, cr, br, mo⟩ : Hol)] (fun x hx => by rw [List.mem_singleton.1 hx]; exact HHw.out) (some ⟨B, 0, none⟩) 1 ad z (by simp) hrd hz
    rw [show ([(⟨fu, em, cr, br, mo⟩ : Hol)] : List Hol).all hoOk = hoOk ⟨fu, em, cr, br, mo⟩ from by simp, hv1] at this
    exact this
  have HFE : Hid (∀ z B c, z.cell? ⟨B, 0, none⟩ = some v0 → z.cell? ⟨B, 1, none⟩ = some v1 → Calls Tryd.prog 29 #[.slice (some ⟨B, 0, none⟩) 2 c] z fun e w' => e = .returned (erO ad (otO ⟨bo, ct⟩ ⟨fu, em, cr, br, mo⟩)) ∧ z = w') := fun z B c q0 q1 => by
    rw [← hv0] at q0
    rw [← hv1] at q1
    exact firstErr2_O ad _ _ _ _ _ q0 q1
  clear hb1 hb2 hk1 hE hp hh hv0 hv1
  go_enter Tryd.func10, Tryd.ntmps10
  go_wp2_with fail
  clear hW1 hW2
  refine wp_region_held_drew (S := fun w' => Below W2.heap.size W2 w') (by kernel_rfl) (Below.refl _ _).drew (fun hHeld => ?_)
  refine wpAnyH_take (i := 0) (v := .agg #[.int .i16 bo, .int .i16 ct]) rfl (by kernel_rfl) (by kernel_rfl) (by kernel_rfl) (fun _ _ _ h => h) (Or.inl ⟨by rfl, fun w' h => by have q0 : w'.cell? ⟨w.heap.size, 0, none⟩ = some (.int .i16 bo) := (Blk.keep HK2.out h).cell 0; have q1 : w'.cell? ⟨w.heap.size, 1, none⟩ = some (.int .i16 ct) := (Blk.keep HK2.out h).cell 1; go_simp⟩) (by assumption) ?_
  try simp only [Act.put, List.getElem_toArray, List.getElem_cons_zero, List.getElem_cons_succ, List.setIfInBounds_toArray, List.set_cons_zero, List.set_cons_succ]
  refine wpAnyH_take (i := 2) (v := .agg #[.int .i64 fu, .int .i64 em, .int .i64 cr, .int .i64 br, .int .i64 mo]) rfl (by kernel_rfl) (by kernel_rfl) (by kernel_rfl) (fun _ _ _ h => h) (Or.inl ⟨by rfl, fun w' h => by have q0 : w'.cell? ⟨W1.heap.size, 0, none⟩ = some (.int .i64 fu) := (Blk.keep HH2.out h).cell 0; have q1 : w'.cell? ⟨W1.heap.size, 1, none⟩ = some (.int .i64 em) := (Blk.keep HH2.out h).cell 1; have q2 : w'.cell? ⟨W1.heap.size, 2, none⟩ = some (.int .i64 cr) := (Blk.keep HH2.out h).cell 2; have q3 : w'.cell? ⟨W1.heap.size, 3, none⟩ = some (.int .i64 br) := (Blk.keep HH2.out h).cell 3; have q4 : w'.cell? ⟨W1.heap.size, 4, none⟩ = some (.int .i64 mo) := (Blk.keep HH2.out h).cell 4; go_simp⟩) (by assumption) ?_
  try simp only [Act.put, List.getElem_toArray, List.getElem_cons_zero, List.getElem_cons_succ, List.setIfInBounds_toArray, List.set_cons_zero, List.set_cons_succ]
  obtain ⟨D0, hD0⟩ : ∃ D0, W2.drew = D0 := ⟨_, rfl⟩
  rw [hD0] at hHeld ⊢
  clear hD0
  refine wpAnyH_ready (rs := [1, 3]) (by kernel_rfl) (by simp) ?_
  refine AllReadyH.cons rfl (fun K hK => ?_) (AllReadyH.cons rfl (fun K hK => ?_) AllReadyH.nil)
  · skip
    refine if_wanted rfl ?_
    go_simp
    refine (HC0.out _ (HE.out.below (HB2.out.trans (hHeld.mono HB2.out.size)) (Nat.le_refl _))).mono ?_
    rintro e z1 ⟨rfl, hb⟩
    have hH2 : Below W2.heap.size W2 z1 := hHeld.trans (hb.mono hHeld.size)
    clear hb hHeld
    dsimp only
    refine hK.out _ _ hH2 (fun hHeld => ?_)
    clear hK K hH2
    try simp only [Act.put, List.getElem_toArray, List.getElem_cons_zero, List.getElem_cons_succ, List.setIfInBounds_toArray, List.set_cons_zero, List.set_cons_succ]
    refine wpAnyH_ready (rs := [3]) (by kernel_rfl) (by simp) ?_
    refine AllReadyH.cons rfl (fun K hK => ?_) AllReadyH.nil
    refine if_wanted rfl ?_
    go_simp
    refine hK.out _ _ (hHeld.alloc hHeld.size _) (fun hHeld => ?_)
    clear hK K
    try simp only [Act.put, List.getElem_toArray, List.getElem_cons_zero, List.getElem_cons_succ, List.setIfInBounds_toArray, List.set_cons_zero, List.set_cons_succ]
    refine wpAnyH_ready (rs := [4]) (by kernel_rfl) (by simp) ?_
    refine AllReadyH.cons rfl (fun K hK => ?_) AllReadyH.nil
    refine if_wanted rfl ?_
    go_simp
    refine (HC1.out _ _ (HE.out.below (HB2.out.trans (hHeld.mono HB2.out.size)) (Nat.le_refl _)) (rd_hol1 z1 ⟨fu, em, cr, br, mo⟩)).mono ?_
    rintro e z2 ⟨rfl, hb⟩
    have hH2 : Below W2.heap.size W2 z2 := hHeld.trans (hb.mono hHeld.size)
    clear hb hHeld
    dsimp only
    refine hK.out _ _ hH2 (fun hHeld => ?_)
    clear hK K hH2
    try simp only [Act.put, List.getElem_toArray, List.getElem_cons_zero, List.getElem_cons_succ, List.setIfInBounds_toArray, List.set_cons_zero, List.set_cons_succ]
    refine wpAnyH_ready (rs := [5]) (by kernel_rfl) (by simp) ?_
    refine AllReadyH.cons rfl (fun K hK => ?_) AllReadyH.nil
    refine if_wanted rfl (wp_twoErrs (.tmp 8) (.tmp 11) rfl P0.out P1.out rfl rfl ?_)
    refine hK.out _ _ (hHeld.alloc hHeld.size _) (fun hHeld => ?_)
    clear hK K
    try simp only [Act.put, List.getElem_toArray, List.getElem_cons_zero, List.getElem_cons_succ, List.setIfInBounds_toArray, List.set_cons_zero, List.set_cons_succ]
    have q0 := new_cell2 z2 v0 v1 59
    refine wpAnyH_ready (rs := [6]) (by kernel_rfl) (by simp) ?_
    refine AllReadyH.cons rfl (fun K hK => ?_) AllReadyH.nil
    refine if_wanted rfl ?_
    go_simp
    refine (HFE.out _ _ _ q0.1 q0.2).mono ?_
    rintro e w9 ⟨rfl, rfl⟩
    dsimp only
    refine hK.out _ _ hHeld (fun hHeld => ?_)
    clear hK K
    try simp only [Act.put, List.getElem_toArray, List.getElem_cons_zero, List.getElem_cons_succ, List.setIfInBounds_toArray, List.set_cons_zero, List.set_cons_succ]
    refine wpAnyH_ready (rs := [7]) (by kernel_rfl) (by simp) ?_
    refine AllReadyH.cons rfl (fun K hK => ?_) AllReadyH.nil
    refine if_wanted rfl ?_
    refine wp_assign0 (v := erO ad (otO ⟨bo, ct⟩ ⟨fu, em, cr, br, mo⟩)) rfl rfl ?_
    refine hK.out _ _ hHeld (fun hHeld => ?_)
    clear hK K
    try simp only [Act.put, List.getElem_toArray, List.getElem_cons_zero, List.getElem_cons_succ, List.setIfInBounds_toArray, List.set_cons_zero, List.set_cons_succ]
    refine wpAnyH_done (by kernel_rfl) ?_ _
    try simp only [Act.put, List.getElem_toArray, List.getElem_cons_zero, List.getElem_cons_succ, List.setIfInBounds_toArray, List.set_cons_zero, List.set_cons_succ]
    obtain ⟨w3, hw3⟩ : ∃ w3, z2.alloc (.cells #[v0, v1] 59) = w3 := ⟨_, rfl⟩
    rw [hw3] at hHeld ⊢
    clear hw3 q0
    have HB3 : Hid (Below w.heap.size w w3) := HB2.out.trans (hHeld.mono HB2.out.size)
    have HK3 : Hid (Blk w3 w.heap.size 29 #[.int .i16 bo, .int .i16 ct]) := Blk.keep HK2.out hHeld
    have HH3 : Hid (Blk w3 W1.heap.size 31 #[.int .i64 fu, .int .i64 em, .int .i64 cr, .int .i64 br, .int .i64 mo]) := Blk.keep HH2.out hHeld
    have HHl : Hid (W1.heap.size < w3.heap.size) := HH3.out.lt
    have HKl : Hid (w.heap.size < w3.heap.size) := HK3.out.lt
    clear hHeld HC0 HC1 HFE P0 P1 HV0 HV1
    cases ho : otO ⟨bo, ct⟩ ⟨fu, em, cr, br, mo⟩ with
    | some i =>
      have hi : i < 7 := otO_lt i ho
      have E := Lib.hid (ot_bad ho)
      have HIi := Lib.hid hi
      rw [erO_some]
      clear ho hi
      go_wp2_with fail
      refine (codeOf_O (HE.out.below HB3.out (Nat.le_refl _)) i HIi.out).mono ?_
      rintro e w4 ⟨rfl, rfl⟩
      obtain ⟨cc, hcc⟩ : ∃ cc, cdN i = cc := ⟨_, rfl⟩
      have HCC := Lib.hid hcc
      rw [hcc]
      clear hcc
      go_wp2
      go_ret2
      exact ⟨by (rw [E.out.1, E.out.2, HCC.out]; first | done | rfl), HB3.out⟩
    | none =>
      obtain ⟨h0, h1, hpo, hho⟩ := ot_ok ho
      obtain ⟨hf, he, hc, -, hmo⟩ := hoOk_iff.1 hho
      obtain ⟨s, q, t, d, hs, hq, ht, hd, -, -, -, -, hd0, hdep⟩ := dep_facts hpo hf he hc
      have hdep2 := hdep br mo
      simp only at hf he hc hmo
      have E0 := Lib.hid h0
      have E1 : Hid (otN ⟨bo, ct⟩ ⟨fu, em, cr, br, mo⟩ = d + mo) := by show _ = _; rw [h1, hdep2]
      have HDq : Hid (∀ z, Calls Tryd.prog 33 #[.agg #[.int .i16 bo, .int .i16 ct], .agg #[.int .i64 fu, .int .i64 em, .int .i64 cr, .int .i64 br, .int .i64 mo]] z fun e w' => e = .returned (.int .i64 d) ∧ Below z.heap.size z w') := fun z => by
        have := depositOf_any ⟨bo, ct⟩ hpo ⟨fu, em, cr, br, mo⟩ hf he hc z
        rw [hdep2] at this
        exact this
      obtain ⟨y1, y2⟩ : W64' (d + mo) := w64' ⟨by omega, by omega⟩
      rw [erO_none]
      clear ho h0 h1 hpo hho hf he hc hs hq ht hd hd0 hdep hdep2 hmo
      go_wp2_with fail
      refine wp_region_held_drew (S := fun w' => Below w3.heap.size w3 w') (by kernel_rfl) (Below.refl _ _).drew (fun hHeld => ?_)
      refine wpAnyH_take (i := 0) (v := .agg #[.int .i16 bo, .int .i16 ct]) rfl (by kernel_rfl) (by kernel_rfl) (by kernel_rfl) (fun _ _ _ h => h) (Or.inl ⟨by rfl, fun w' h => by have q0 : w'.cell? ⟨w.heap.size, 0, none⟩ = some (.int .i16 bo) := (Blk.keep HK3.out h).cell 0; have q1 : w'.cell? ⟨w.heap.size, 1, none⟩ = some (.int .i16 ct) := (Blk.keep HK3.out h).cell 1; go_simp⟩) (by assumption) ?_
      try simp only [Act.put, List.getElem_toArray, List.getElem_cons_zero, List.getElem_cons_succ, List.setIfInBounds_toArray, List.set_cons_zero, List.set_cons_succ]
      refine wpAnyH_take (i := 1) (v := .agg #[.int .i64 fu, .int .i64 em, .int .i64 cr, .int .i64 br, .int .i64 mo]) rfl (by kernel_rfl) (by kernel_rfl) (by kernel_rfl) (fun _ _ _ h => h) (Or.inl ⟨by rfl, fun w' h => by have q0 : w'.cell? ⟨W1.heap.size, 0, none⟩ = some (.int .i64 fu) := (Blk.keep HH3.out h).cell 0; have q1 : w'.cell? ⟨W1.heap.size, 1, none⟩ = some (.int .i64 em) := (Blk.keep HH3.out h).cell 1; have q2 : w'.cell? ⟨W1.heap.size, 2, none⟩ = some (.int .i64 cr) := (Blk.keep HH3.out h).cell 2; have q3 : w'.cell? ⟨W1.heap.size, 3, none⟩ = some (.int .i64 br) := (Blk.keep HH3.out h).cell 3; have q4 : w'.cell? ⟨W1.heap.size, 4, none⟩ = some (.int .i64 mo) := (Blk.keep HH3.out h).cell 4; go_simp⟩) (by assumption) ?_
      try simp only [Act.put, List.getElem_toArray, List.getElem_cons_zero, List.getElem_cons_succ, List.setIfInBounds_toArray, List.set_cons_zero, List.set_cons_succ]
      refine wpAnyH_take (i := 3) (v := .pointer (some ⟨W1.heap.size, 4, none⟩)) rfl (by kernel_rfl) (by kernel_rfl) (by kernel_rfl) (fun _ _ _ h => h) (Or.inl ⟨by rfl, fun w' h => by go_simp⟩) (by assumption) ?_
      try simp only [Act.put, List.getElem_toArray, List.getElem_cons_zero, List.getElem_cons_succ, List.setIfInBounds_toArray, List.set_cons_zero, List.set_cons_succ]
      refine wpAnyH_take (i := 4) (v := .int .i64 mo) rfl (by kernel_rfl) (by kernel_rfl) (by kernel_rfl) (fun _ _ _ h => h) (Or.inl ⟨by rfl, fun w' h => by have q4 : w'.cell? ⟨W1.heap.size, 4, none⟩ = some (.int .i64 mo) := (Blk.keep HH3.out h).cell 4; go_simp⟩) (by assumption) ?_
      try simp only [Act.put, List.getElem_toArray, List.getElem_cons_zero, List.getElem_cons_succ, List.setIfInBounds_toArray, List.set_cons_zero, List.set_cons_succ]
      obtain ⟨D9, hD9⟩ : ∃ D9, w3.drew = D9 := ⟨_, rfl⟩
      rw [hD9] at hHeld ⊢
      clear hD9
      refine wpAnyH_ready (rs := [2]) (by kernel_rfl) (by simp) ?_
      refine AllReadyH.cons rfl (fun K hK => ?_) AllReadyH.nil
      refine if_wanted rfl ?_
      go_simp
      refine (HDq.out _).mono ?_
      rintro e z9 ⟨rfl, hb⟩
      have hH2 : Below w3.heap.size w3 z9 := hHeld.trans (hb.mono hHeld.size)
      clear hb hHeld
      dsimp only
      refine hK.out _ _ hH2 (fun hHeld => ?_)
      clear hK K hH2
      try simp only [Act.put, List.getElem_toArray, List.getElem_cons_zero, List.getElem_cons_succ, List.setIfInBounds_toArray, List.set_cons_zero, List.set_cons_succ]
      refine wpAnyH_take (i := 5) (v := .int .i64 (d + mo)) rfl (by kernel_rfl) (by kernel_rfl) (by kernel_rfl) (fun _ _ _ h => h) (Or.inl ⟨by rfl, fun w' h => by go_simp⟩) (by assumption) ?_
      try simp only [Act.put, List.getElem_toArray, List.getElem_cons_zero, List.getElem_cons_succ, List.setIfInBounds_toArray, List.set_cons_zero, List.set_cons_succ]
      refine wpAnyH_ready (rs := [6]) (by kernel_rfl) (by simp) ?_
      refine AllReadyH.cons rfl (fun K hK => ?_) AllReadyH.nil
      refine if_wanted rfl ?_
      refine wp_assign0 (v := .int .i64 (d + mo)) rfl rfl ?_
      refine hK.out _ _ hHeld (fun hHeld => ?_)
      clear hK K
      try simp only [Act.put, List.getElem_toArray, List.getElem_cons_zero, List.getElem_cons_succ, List.setIfInBounds_toArray, List.set_cons_zero, List.set_cons_succ]
      refine wpAnyH_ready (rs := [7]) (by kernel_rfl) (by simp) ?_
      refine AllReadyH.cons rfl (fun K hK => ?_) AllReadyH.nil
      refine if_wanted rfl ?_
      refine wp_assign0 (v := .int .i64 0) rfl rfl ?_
      refine hK.out _ _ hHeld (fun hHeld => ?_)
      clear hK K
      try simp only [Act.put, List.getElem_toArray, List.getElem_cons_zero, List.getElem_cons_succ, List.setIfInBounds_toArray, List.set_cons_zero, List.set_cons_succ]
      refine wpAnyH_done (by kernel_rfl) ?_ _
      try simp only [Act.put, List.getElem_toArray, List.getElem_cons_zero, List.getElem_cons_succ, List.setIfInBounds_toArray, List.set_cons_zero, List.set_cons_succ]
      have hb := hHeld
      clear hHeld
      have HB4 : Hid (Below w.heap.size w z9) := HB3.out.trans (hb.mono HB3.out.size)
      clear hb
      go_wp2
      go_ret2
      exact ⟨by (rw [E1.out, E0.out]; first | done | rfl), HB4.out⟩
  · skip
    refine if_wanted rfl ?_
    go_simp
    refine hK.out _ _ (hHeld.alloc hHeld.size _) (fun hHeld => ?_)
    clear hK K
    try simp only [Act.put, List.getElem_toArray, List.getElem_cons_zero, List.getElem_cons_succ, List.setIfInBounds_toArray, List.set_cons_zero, List.set_cons_succ]
    refine wpAnyH_ready (rs := [1]) (by kernel_rfl) (by simp) ?_
    refine AllReadyH.cons rfl (fun K hK => ?_) AllReadyH.nil
    obtain ⟨Y, hY⟩ : ∃ Y, D0.alloc (.cells #[.int .i64 fu, .int .i64 em, .int .i64 cr, .int .i64 br, .int .i64 mo] 31) = Y := ⟨_, rfl⟩
    have hrY : Rd Y Y.heap.size hcells (some ⟨D0.heap.size, 0, none⟩) [(⟨fu, em, cr, br, mo⟩ : Hol)] := by rw [← hY]; exact rd_hol1 D0 ⟨fu, em, cr, br, mo⟩
    have HRY := Lib.hid hrY
    rw [hY] at hHeld ⊢
    clear hY hrY
    refine if_wanted rfl ?_
    go_simp
    refine (HC0.out _ (HE.out.below (HB2.out.trans (hHeld.mono HB2.out.size)) (Nat.le_refl _))).mono ?_
    rintro e z1 ⟨rfl, hb⟩
    have HRZ : Hid (Rd z1 z1.heap.size hcells (some ⟨D0.heap.size, 0, none⟩) [(⟨fu, em, cr, br, mo⟩ : Hol)]) := HRY.out.keep hb
    have hH2 : Below W2.heap.size W2 z1 := hHeld.trans (hb.mono hHeld.size)
    clear hb hHeld
    dsimp only
    refine hK.out _ _ hH2 (fun hHeld => ?_)
    clear hK K hH2
    try simp only [Act.put, List.getElem_toArray, List.getElem_cons_zero, List.getElem_cons_succ, List.setIfInBounds_toArray, List.set_cons_zero, List.set_cons_succ]
    refine wpAnyH_ready (rs := [4]) (by kernel_rfl) (by simp) ?_
    refine AllReadyH.cons rfl (fun K hK => ?_) AllReadyH.nil
    refine if_wanted rfl ?_
    go_simp
    refine (HC1.out _ _ (HE.out.below (HB2.out.trans (hHeld.mono HB2.out.size)) (Nat.le_refl _)) HRZ.out).mono ?_
    rintro e z2 ⟨rfl, hb⟩
    have hH2 : Below W2.heap.size W2 z2 := hHeld.trans (hb.mono hHeld.size)
    clear hb hHeld
    dsimp only
    refine hK.out _ _ hH2 (fun hHeld => ?_)
    clear hK K hH2
    try simp only [Act.put, List.getElem_toArray, List.getElem_cons_zero, List.getElem_cons_succ, List.setIfInBounds_toArray, List.set_cons_zero, List.set_cons_succ]
    refine wpAnyH_ready (rs := [5]) (by kernel_rfl) (by simp) ?_
    refine AllReadyH.cons rfl (fun K hK => ?_) AllReadyH.nil
    refine if_wanted rfl (wp_twoErrs (.tmp 8) (.tmp 11) rfl P0.out P1.out rfl rfl ?_)
    refine hK.out _ _ (hHeld.alloc hHeld.size _) (fun hHeld => ?_)
    clear hK K
    try simp only [Act.put, List.getElem_toArray, List.getElem_cons_zero, List.getElem_cons_succ, List.setIfInBounds_toArray, List.set_cons_zero, List.set_cons_succ]
    have q0 := new_cell2 z2 v0 v1 59
    refine wpAnyH_ready (rs := [6]) (by kernel_rfl) (by simp) ?_
    refine AllReadyH.cons rfl (fun K hK => ?_) AllReadyH.nil
    refine if_wanted rfl ?_
    go_simp
    refine (HFE.out _ _ _ q0.1 q0.2).mono ?_
    rintro e w9 ⟨rfl, rfl⟩
    dsimp only
    refine hK.out _ _ hHeld (fun hHeld => ?_)
    clear hK K
    try simp only [Act.put, List.getElem_toArray, List.getElem_cons_zero, List.getElem_cons_succ, List.setIfInBounds_toArray, List.set_cons_zero, List.set_cons_succ]
    refine wpAnyH_ready (rs := [7]) (by kernel_rfl) (by simp) ?_
    refine AllReadyH.cons rfl (fun K hK => ?_) AllReadyH.nil
    refine if_wanted rfl ?_
    refine wp_assign0 (v := erO ad (otO ⟨bo, ct⟩ ⟨fu, em, cr, br, mo⟩)) rfl rfl ?_
    refine hK.out _ _ hHeld (fun hHeld => ?_)
    clear hK K
    try simp only [Act.put, List.getElem_toArray, List.getElem_cons_zero, List.getElem_cons_succ, List.setIfInBounds_toArray, List.set_cons_zero, List.set_cons_succ]
    refine wpAnyH_done (by kernel_rfl) ?_ _
    try simp only [Act.put, List.getElem_toArray, List.getElem_cons_zero, List.getElem_cons_succ, List.setIfInBounds_toArray, List.set_cons_zero, List.set_cons_succ]
    obtain ⟨w3, hw3⟩ : ∃ w3, z2.alloc (.cells #[v0, v1] 59) = w3 := ⟨_, rfl⟩
    rw [hw3] at hHeld ⊢
    clear hw3 q0
    have HB3 : Hid (Below w.heap.size w w3) := HB2.out.trans (hHeld.mono HB2.out.size)
    have HK3 : Hid (Blk w3 w.heap.size 29 #[.int .i16 bo, .int .i16 ct]) := Blk.keep HK2.out hHeld
    have HH3 : Hid (Blk w3 W1.heap.size 31 #[.int .i64 fu, .int .i64 em, .int .i64 cr, .int .i64 br, .int .i64 mo]) := Blk.keep HH2.out hHeld
    have HHl : Hid (W1.heap.size < w3.heap.size) := HH3.out.lt
    have HKl : Hid (w.heap.size < w3.heap.size) := HK3.out.lt
    clear hHeld HC0 HC1 HFE P0 P1 HV0 HV1
    cases ho : otO ⟨bo, ct⟩ ⟨fu, em, cr, br, mo⟩ with
    | some i =>
      have hi : i < 7 := otO_lt i ho
      have E := Lib.hid (ot_bad ho)
      have HIi := Lib.hid hi
      rw [erO_some]
      clear ho hi
      go_wp2_with fail
      refine (codeOf_O (HE.out.below HB3.out (Nat.le_refl _)) i HIi.out).mono ?_
      rintro e w4 ⟨rfl, rfl⟩
      obtain ⟨cc, hcc⟩ : ∃ cc, cdN i = cc := ⟨_, rfl⟩
      have HCC := Lib.hid hcc
      rw [hcc]
      clear hcc
      go_wp2
      go_ret2
      exact ⟨by (rw [E.out.1, E.out.2, HCC.out]; first | done | rfl), HB3.out⟩
    | none =>
      obtain ⟨h0, h1, hpo, hho⟩ := ot_ok ho
      obtain ⟨hf, he, hc, -, hmo⟩ := hoOk_iff.1 hho
      obtain ⟨s, q, t, d, hs, hq, ht, hd, -, -, -, -, hd0, hdep⟩ := dep_facts hpo hf he hc
      have hdep2 := hdep br mo
      simp only at hf he hc hmo
      have E0 := Lib.hid h0
      have E1 : Hid (otN ⟨bo, ct⟩ ⟨fu, em, cr, br, mo⟩ = d + mo) := by show _ = _; rw [h1, hdep2]
      have HDq : Hid (∀ z, Calls Tryd.prog 33 #[.agg #[.int .i16 bo, .int .i16 ct], .agg #[.int .i64 fu, .int .i64 em, .int .i64 cr, .int .i64 br, .int .i64 mo]] z fun e w' => e = .returned (.int .i64 d) ∧ Below z.heap.size z w') := fun z => by
        have := depositOf_any ⟨bo, ct⟩ hpo ⟨fu, em, cr, br, mo⟩ hf he hc z
        rw [hdep2] at this
        exact this
      obtain ⟨y1, y2⟩ : W64' (d + mo) := w64' ⟨by omega, by omega⟩
      rw [erO_none]
      clear ho h0 h1 hpo hho hf he hc hs hq ht hd hd0 hdep hdep2 hmo
      go_wp2_with fail
      refine wp_region_held_drew (S := fun w' => Below w3.heap.size w3 w') (by kernel_rfl) (Below.refl _ _).drew (fun hHeld => ?_)
      refine wpAnyH_take (i := 0) (v := .agg #[.int .i16 bo, .int .i16 ct]) rfl (by kernel_rfl) (by kernel_rfl) (by kernel_rfl) (fun _ _ _ h => h) (Or.inl ⟨by rfl, fun w' h => by have q0 : w'.cell? ⟨w.heap.size, 0, none⟩ = some (.int .i16 bo) := (Blk.keep HK3.out h).cell 0; have q1 : w'.cell? ⟨w.heap.size, 1, none⟩ = some (.int .i16 ct) := (Blk.keep HK3.out h).cell 1; go_simp⟩) (by assumption) ?_
      try simp only [Act.put, List.getElem_toArray, List.getElem_cons_zero, List.getElem_cons_succ, List.setIfInBounds_toArray, List.set_cons_zero, List.set_cons_succ]
      refine wpAnyH_take (i := 1) (v := .agg #[.int .i64 fu, .int .i64 em, .int .i64 cr, .int .i64 br, .int .i64 mo]) rfl (by kernel_rfl) (by kernel_rfl) (by kernel_rfl) (fun _ _ _ h => h) (Or.inl ⟨by rfl, fun w' h => by have q0 : w'.cell? ⟨W1.heap.size, 0, none⟩ = some (.int .i64 fu) := (Blk.keep HH3.out h).cell 0; have q1 : w'.cell? ⟨W1.heap.size, 1, none⟩ = some (.int .i64 em) := (Blk.keep HH3.out h).cell 1; have q2 : w'.cell? ⟨W1.heap.size, 2, none⟩ = some (.int .i64 cr) := (Blk.keep HH3.out h).cell 2; have q3 : w'.cell? ⟨W1.heap.size, 3, none⟩ = some (.int .i64 br) := (Blk.keep HH3.out h).cell 3; have q4 : w'.cell? ⟨W1.heap.size, 4, none⟩ = some (.int .i64 mo) := (Blk.keep HH3.out h).cell 4; go_simp⟩) (by assumption) ?_
      try simp only [Act.put, List.getElem_toArray, List.getElem_cons_zero, List.getElem_cons_succ, List.setIfInBounds_toArray, List.set_cons_zero, List.set_cons_succ]
      refine wpAnyH_take (i := 3) (v := .pointer (some ⟨W1.heap.size, 4, none⟩)) rfl (by kernel_rfl) (by kernel_rfl) (by kernel_rfl) (fun _ _ _ h => h) (Or.inl ⟨by rfl, fun w' h => by go_simp⟩) (by assumption) ?_
      try simp only [Act.put, List.getElem_toArray, List.getElem_cons_zero, List.getElem_cons_succ, List.setIfInBounds_toArray, List.set_cons_zero, List.set_cons_succ]
      refine wpAnyH_take (i := 4) (v := .int .i64 mo) rfl (by kernel_rfl) (by kernel_rfl) (by kernel_rfl) (fun _ _ _ h => h) (Or.inl ⟨by rfl, fun w' h => by have q4 : w'.cell? ⟨W1.heap.size, 4, none⟩ = some (.int .i64 mo) := (Blk.keep HH3.out h).cell 4; go_simp⟩) (by assumption) ?_
      try simp only [Act.put, List.getElem_toArray, List.getElem_cons_zero, List.getElem_cons_succ, List.setIfInBounds_toArray, List.set_cons_zero, List.set_cons_succ]
      obtain ⟨D9, hD9⟩ : ∃ D9, w3.drew = D9 := ⟨_, rfl⟩
      rw [hD9] at hHeld ⊢
      clear hD9
      refine wpAnyH_ready (rs := [2]) (by kernel_rfl) (by simp) ?_
      refine AllReadyH.cons rfl (fun K hK => ?_) AllReadyH.nil
      refine if_wanted rfl ?_
      go_simp
      refine (HDq.out _).mono ?_
      rintro e z9 ⟨rfl, hb⟩
      have hH2 : Below w3.heap.size w3 z9 := hHeld.trans (hb.mono hHeld.size)
      clear hb hHeld
      dsimp only
      refine hK.out _ _ hH2 (fun hHeld => ?_)
      clear hK K hH2
      try simp only [Act.put, List.getElem_toArray, List.getElem_cons_zero, List.getElem_cons_succ, List.setIfInBounds_toArray, List.set_cons_zero, List.set_cons_succ]
      refine wpAnyH_take (i := 5) (v := .int .i64 (d + mo)) rfl (by kernel_rfl) (by kernel_rfl) (by kernel_rfl) (fun _ _ _ h => h) (Or.inl ⟨by rfl, fun w' h => by go_simp⟩) (by assumption) ?_
      try simp only [Act.put, List.getElem_toArray, List.getElem_cons_zero, List.getElem_cons_succ, List.setIfInBounds_toArray, List.set_cons_zero, List.set_cons_succ]
      refine wpAnyH_ready (rs := [6]) (by kernel_rfl) (by simp) ?_
      refine AllReadyH.cons rfl (fun K hK => ?_) AllReadyH.nil
      refine if_wanted rfl ?_
      refine wp_assign0 (v := .int .i64 (d + mo)) rfl rfl ?_
      refine hK.out _ _ hHeld (fun hHeld => ?_)
      clear hK K
      try simp only [Act.put, List.getElem_toArray, List.getElem_cons_zero, List.getElem_cons_succ, List.setIfInBounds_toArray, List.set_cons_zero, List.set_cons_succ]
      refine wpAnyH_ready (rs := [7]) (by kernel_rfl) (by simp) ?_
      refine AllReadyH.cons rfl (fun K hK => ?_) AllReadyH.nil
      refine if_wanted rfl ?_
      refine wp_assign0 (v := .int .i64 0) rfl rfl ?_
      refine hK.out _ _ hHeld (fun hHeld => ?_)
      clear hK K
      try simp only [Act.put, List.getElem_toArray, List.getElem_cons_zero, List.getElem_cons_succ, List.setIfInBounds_toArray, List.set_cons_zero, List.set_cons_succ]
      refine wpAnyH_done (by kernel_rfl) ?_ _
      try simp only [Act.put, List.getElem_toArray, List.getElem_cons_zero, List.getElem_cons_succ, List.setIfInBounds_toArray, List.set_cons_zero, List.set_cons_succ]
      have hb := hHeld
      clear hHeld
      have HB4 : Hid (Below w.heap.size w z9) := HB3.out.trans (hb.mono HB3.out.size)
      clear hb
      go_wp2
      go_ret2
      exact ⟨by (rw [E1.out, E0.out]; first | done | rfl), HB4.out⟩
end Go.Proofs.YtjgafdfffmfhhabDoor
