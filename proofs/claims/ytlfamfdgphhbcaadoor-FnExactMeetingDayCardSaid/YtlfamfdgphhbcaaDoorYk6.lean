/-
  MeetingDay, the program's contract. Condition: the numbers fit their kinds; the sentinel errors lie as the row lists them.
-/
import Derived.Test.YtlfamfdgphhbcaaDoorYk5
import Derived.Test.YtlfamfdgphhbcaaDoorYz
namespace Go.Proofs.YtlfamfdgphhbcaaDoor
open Go.ChangeShapes Go.WideShapes Go.ChangeAt Go.RowKit Go.Deep

theorem mt_any {n : Int} {a b : Wal} {f : Int} (h : akV n [a, b] (inS f) = 0) : mtV n a b f = mdV (mdO a b f) ∧ mtC n a b f = cdO (mdE (mdO a b f)) := by
  refine ⟨by rw [mtV, if_pos h], ?_⟩
  rw [mtC, if_pos h]
  cases mdO a b f <;> rfl
theorem mdE_lt {o : Option Int} : ∀ i, mdE o = some i → i < 7 := by
  cases o with
  | some _ => intro i h; cases h
  | none => intro i h; obtain rfl := Option.some.inj h; omega

set_option maxRecDepth 100000 in
set_option maxHeartbeats 4000000 in
theorem implMeet_any (n : Int) (hn : wfI6 n) (a b : Wal) (hwa : wfV a) (hwb : wfV b) (f : Int) (ad : Nat → Addr) (w : World) (hE : EW 7 w ad) :
    Calls Tryd.prog 9 #[.int .i64 n, .agg (vcells a).toArray, .agg (vcells b).toArray, .int .i64 f] w fun e w' => e = .returned (.tuple #[.int .i64 (mtV n a b f), .int .i64 (mtC n a b f)]) ∧ Below w.heap.size w w' := by
  have HE := Lib.hid hE
  clear hE
  have HCW : Hid (∀ W : World, EW 7 W ad → Calls Tryd.prog 28 #[.int .i64 n, .slice (some ⟨W.heap.size, 0, none⟩) 2 2] (W.alloc (.cells (vcells a ++ vcells b).toArray 28)) fun e w' => e = .returned (erO ad (chk 5 (vsOk n [a, b]))) ∧ Below (W.alloc (.cells (vcells a ++ vcells b).toArray 28)).heap.size (W.alloc (.cells (vcells a ++ vcells b).toArray 28)) w') :=
    fun W hW => checkWalkers_any n hn [a, b] (fun y hy => by simp at hy; rcases hy with rfl | rfl <;> assumption) _ 2 ad _ (by simp) (rd_twoW a b W) (hW.below ((Below.refl _ W).alloc (Nat.le_refl _) _) (Nat.le_refl _))
  clear hwa hwb
  obtain ⟨afi, aev, ast, asp, aco, atu⟩ := a
  obtain ⟨bfi, bev, bst, bsp, bco, btu⟩ := b
  obtain ⟨W0, hW0⟩ : ∃ W0, (w.alloc (.cells #[.int .i16 afi, .int .i16 aev, .int .i16 ast, .int .i16 asp, .int .i16 aco, .int .i8 atu] 28)).alloc (.cells #[.int .i16 bfi, .int .i16 bev, .int .i16 bst, .int .i16 bsp, .int .i16 bco, .int .i8 btu] 28) = W0 := ⟨_, rfl⟩
  have hB0 : Below w.heap.size w W0 := by rw [← hW0]; exact ((Below.refl _ w).alloc (Nat.le_refl _) _).alloc (by simp) _
  have hKa : Blk W0 w.heap.size 28 #[.int .i16 afi, .int .i16 aev, .int .i16 ast, .int .i16 asp, .int .i16 aco, .int .i8 atu] := by rw [← hW0]; exact (Blk.new w _ _).alloc _
  have hKb : Blk W0 (w.heap.size + 1) 28 #[.int .i16 bfi, .int .i16 bev, .int .i16 bst, .int .i16 bsp, .int .i16 bco, .int .i8 btu] := by rw [← hW0]; exact Blk.new' (by simp) rfl
  show Calls Tryd.prog 9 #[.int .i64 n, .agg #[.int .i16 afi, .int .i16 aev, .int .i16 ast, .int .i16 asp, .int .i16 aco, .int .i8 atu], .agg #[.int .i16 bfi, .int .i16 bev, .int .i16 bst, .int .i16 bsp, .int .i16 bco, .int .i8 btu], .int .i64 f] w _
  have HB0 := Lib.hid hB0
  have HKa := Lib.hid hKa
  have HKb := Lib.hid hKb
  clear hB0 hKa hKb
  go_enter Tryd.func9, Tryd.ntmps9
  go_wp2_with (first
    | (refine wpList_load_row rfl 28 (.tmp 5) rfl w.heap.size rfl 28 #[.int .i16 afi, .int .i16 aev, .int .i16 ast, .int .i16 asp, .int .i16 aco, .int .i8 atu] (0, 0) _ HKa.out Tryd.underlying28 rfl Tryd.sizeVI2 ?_)
    | (refine wpList_load_row rfl 28 (.tmp 6) rfl (w.heap.size + 1) rfl 28 #[.int .i16 bfi, .int .i16 bev, .int .i16 bst, .int .i16 bsp, .int .i16 bco, .int .i8 btu] (0, 0) _ HKb.out Tryd.underlying28 rfl Tryd.sizeVI2 ?_)
    | (refine wpList_twoWals rfl (.tmp 14) (.tmp 15) rfl (⟨afi, aev, ast, asp, aco, atu⟩ : Wal) (⟨bfi, bev, bst, bsp, bco, btu⟩ : Wal) rfl rfl ?_))
  clear hW0
  have hA1 : Below w.heap.size w (W0.alloc (.cells (vcells (⟨afi, aev, ast, asp, aco, atu⟩ : Wal) ++ vcells (⟨bfi, bev, bst, bsp, bco, btu⟩ : Wal)).toArray 28)) := HB0.out.alloc HB0.out.size _
  refine (HCW.out W0 (HE.out.below HB0.out (Nat.le_refl _))).mono ?_
  rintro e w2 ⟨rfl, hb⟩
  have HB2 : Hid (Below w.heap.size w w2) := hA1.trans (hb.mono (by have := HB0.out.size; simp; omega))
  have HKa2 : Hid (Blk w2 w.heap.size 28 #[.int .i16 afi, .int .i16 aev, .int .i16 ast, .int .i16 asp, .int .i16 aco, .int .i8 atu]) := (HKa.out.alloc _).keep hb
  have HKb2 : Hid (Blk w2 (w.heap.size + 1) 28 #[.int .i16 bfi, .int .i16 bev, .int .i16 bst, .int .i16 bsp, .int .i16 bco, .int .i8 btu]) := (HKb.out.alloc _).keep hb
  clear hb hA1 HKa HKb HB0 HCW
  obtain ⟨v0, hv0⟩ : ∃ v, erO ad (chk 5 (vsOk n [(⟨afi, aev, ast, asp, aco, atu⟩ : Wal), (⟨bfi, bev, bst, bsp, bco, btu⟩ : Wal)])) = v := ⟨_, rfl⟩
  have HV0 := Lib.hid hv0
  have P0 : Hid (isE v0) := by show isE v0; rw [← hv0]; exact erO_isE _ _
  rw [hv0]
  clear hv0
  go_wp2_with fail
  refine (checkDay_any f ad _ (HE.out.below HB2.out (Nat.le_refl _))).mono ?_
  rintro e w3 ⟨rfl, rfl⟩
  obtain ⟨v1, hv1⟩ : ∃ v, erO ad (chk 0 (inS f)) = v := ⟨_, rfl⟩
  have HV1 := Lib.hid hv1
  have P1 : Hid (isE v1) := by show isE v1; rw [← hv1]; exact erO_isE _ _
  rw [hv1]
  clear hv1
  go_wp2_with (refine wpList_twoErrs rfl (.tmp 17) (.tmp 19) rfl P0.out P1.out rfl rfl ?_)
  have q0 := new_cell2 w2 v0 v1 59
  rw [← HV0.out, ← HV1.out] at q0 ⊢
  refine (firstErr2_O ad _ _ _ _ _ q0.1 q0.2).mono ?_
  rintro e w9 ⟨rfl, rfl⟩
  rw [HV0.out, HV1.out]
  have L2 : Below w.heap.size w (w2.alloc (.cells #[v0, v1] 59)) := HB2.out.alloc HB2.out.size _
  have Ka2 : Blk (w2.alloc (.cells #[v0, v1] 59)) w.heap.size 28 #[.int .i16 afi, .int .i16 aev, .int .i16 ast, .int .i16 asp, .int .i16 aco, .int .i8 atu] := HKa2.out.alloc _
  have Kb2 : Blk (w2.alloc (.cells #[v0, v1] 59)) (w.heap.size + 1) 28 #[.int .i16 bfi, .int .i16 bev, .int .i16 bst, .int .i16 bsp, .int .i16 bco, .int .i8 btu] := HKb2.out.alloc _
  obtain ⟨w3, hw3⟩ : ∃ w3, w2.alloc (.cells #[v0, v1] 59) = w3 := ⟨_, rfl⟩
  rw [hw3] at L2 Ka2 Kb2 ⊢
  have M2 := Lib.hid L2
  have NA := Lib.hid Ka2
  have NB := Lib.hid Kb2
  clear q0 hw3 L2 Ka2 Kb2 HB2 HKa2 HKb2 HV0 HV1 P0 P1
  cases hv : vsOk n [(⟨afi, aev, ast, asp, aco, atu⟩ : Wal), (⟨bfi, bev, bst, bsp, bco, btu⟩ : Wal)]
  · have E1 : Hid (akV n [(⟨afi, aev, ast, asp, aco, atu⟩ : Wal), (⟨bfi, bev, bst, bsp, bco, btu⟩ : Wal)] (inS f) = 1) := akV_inv hv
    have E2 := Lib.hid (mt_no (n := n) (a := (⟨afi, aev, ast, asp, aco, atu⟩ : Wal)) (b := (⟨bfi, bev, bst, bsp, bco, btu⟩ : Wal)) (f := f) (by rw [E1.out]; decide))
    rw [show firstO [chk 5 false, chk 0 (inS f)] = some 5 from rfl, erO_some]
    clear hv
    go_wp2_with fail
    refine (codeOf_O (HE.out.below M2.out (Nat.le_refl _)) 5 (by omega)).mono ?_
    rintro e w4 ⟨rfl, rfl⟩
    go_wp2
    go_ret2
    exact ⟨by (rw [E2.out.1, E2.out.2, E1.out]; first | done | rfl), M2.out⟩
  cases hd : inS f
  · have E1 : Hid (akV n [(⟨afi, aev, ast, asp, aco, atu⟩ : Wal), (⟨bfi, bev, bst, bsp, bco, btu⟩ : Wal)] (inS f) = 2) := by rw [hd]; exact akV_ok hv
    have E2 := Lib.hid (mt_no (n := n) (a := (⟨afi, aev, ast, asp, aco, atu⟩ : Wal)) (b := (⟨bfi, bev, bst, bsp, bco, btu⟩ : Wal)) (f := f) (by rw [E1.out]; decide))
    rw [show firstO [chk 5 true, chk 0 false] = some 0 from rfl, erO_some]
    clear hv hd
    go_wp2_with fail
    refine (codeOf_O (HE.out.below M2.out (Nat.le_refl _)) 0 (by omega)).mono ?_
    rintro e w4 ⟨rfl, rfl⟩
    go_wp2
    go_ret2
    exact ⟨by (rw [E2.out.1, E2.out.2, E1.out]; first | done | rfl), M2.out⟩
  have E1 : Hid (akV n [(⟨afi, aev, ast, asp, aco, atu⟩ : Wal), (⟨bfi, bev, bst, bsp, bco, btu⟩ : Wal)] (inS f) = 0) := by rw [hd]; exact akV_ok hv
  have E2 := Lib.hid (mt_any E1.out)
  have hf0 : 0 ≤ f ∧ f ≤ 10000 := by simpa [inS] using hd
  obtain ⟨⟨h1, h60⟩, hwa, hwb⟩ := vsOk_two hv
  obtain ⟨m, rfl⟩ : ∃ m : Nat, n = m := ⟨n.toNat, by omega⟩
  have HWa := Lib.hid hwa
  have HWb := Lib.hid hwb
  have hxa := vOk_out hwa
  have hxb := vOk_out hwb
  have HMD : Hid (∀ W, EW 7 W ad → Calls Tryd.prog 31 #[.agg #[.int .i64 afi, .int .i64 aev], .agg #[.int .i64 bfi, .int .i64 bev], .int .i64 f] W fun e w' => e = .returned (.tuple #[.int .i64 (mdV (mdO (⟨afi, aev, ast, asp, aco, atu⟩ : Wal) (⟨bfi, bev, bst, bsp, bco, btu⟩ : Wal) f)), erO ad (mdE (mdO (⟨afi, aev, ast, asp, aco, atu⟩ : Wal) (⟨bfi, bev, bst, bsp, bco, btu⟩ : Wal) f))]) ∧ Below W.heap.size W w') := fun W hW => meetingDay_any (⟨afi, aev, ast, asp, aco, atu⟩ : Wal) (⟨bfi, bev, bst, bsp, bco, btu⟩ : Wal) hxa.1 hxa.2.1 hxb.1 hxb.2.1 f hf0 ad W hW
  have HCo : Hid (∀ W, EW 7 W ad → Calls Tryd.prog 30 #[erO ad (mdE (mdO (⟨afi, aev, ast, asp, aco, atu⟩ : Wal) (⟨bfi, bev, bst, bsp, bco, btu⟩ : Wal) f))] W fun e w' => e = .returned (.int .i64 (cdO (mdE (mdO (⟨afi, aev, ast, asp, aco, atu⟩ : Wal) (⟨bfi, bev, bst, bsp, bco, btu⟩ : Wal) f)))) ∧ W = w') := fun W hW => codeOf_any hW _ mdE_lt
  obtain ⟨dv, hdv⟩ : ∃ v, mdV (mdO (⟨afi, aev, ast, asp, aco, atu⟩ : Wal) (⟨bfi, bev, bst, bsp, bco, btu⟩ : Wal) f) = v := ⟨_, rfl⟩
  obtain ⟨ev, hev⟩ : ∃ v, erO ad (mdE (mdO (⟨afi, aev, ast, asp, aco, atu⟩ : Wal) (⟨bfi, bev, bst, bsp, bco, btu⟩ : Wal) f)) = v := ⟨_, rfl⟩
  obtain ⟨cv, hcv⟩ : ∃ v, cdO (mdE (mdO (⟨afi, aev, ast, asp, aco, atu⟩ : Wal) (⟨bfi, bev, bst, bsp, bco, btu⟩ : Wal) f)) = v := ⟨_, rfl⟩
  rw [hdv, hev] at HMD
  rw [hev, hcv] at HCo
  rw [hdv, hcv] at E2
  rw [show firstO [chk 5 true, chk 0 true] = none from rfl, erO_none]
  have hm1 : 1 ≤ m := by omega
  have hm60 : m ≤ 60 := by omega
  clear hv hd hwa hwb hxa hxb hf0 hdv hev hcv h1 h60
  have hf := Tryd.fieldDays
  go_wp2_with fail
  refine wp_region_held_drew (S := fun w' => Below w3.heap.size w3 w') (by kernel_rfl) (Below.refl _ _).drew (fun hHeld => ?_)
  refine wpAnyH_take (i := 0) (v := .int .i64 m) rfl (by kernel_rfl) (by kernel_rfl) (by kernel_rfl) (fun _ _ _ h => h) (Or.inl ⟨by rfl, fun w' h => by go_simp⟩) (by assumption) ?_
  try simp only [Act.put, List.getElem_toArray, List.getElem_cons_zero, List.getElem_cons_succ, List.setIfInBounds_toArray, List.set_cons_zero, List.set_cons_succ]
  refine' wpAnyH_take (i := 1) (v := _) rfl (by kernel_rfl) (by kernel_rfl) (by kernel_rfl) (fun _ _ _ h => h) (yieldsIf_load_mid (by rfl) 28 (.tmp 5) rfl w.heap.size (0) rfl (vcells (⟨afi, aev, ast, asp, aco, atu⟩ : Wal)) _ (fun w' h => fun j v hv => (rngV (x := (⟨afi, aev, ast, asp, aco, atu⟩ : Wal)) (NA.out.below h NA.out.lt)) j v hv) Tryd.underlying28 rfl Tryd.sizeVI2) (by assumption) ?_
  try simp only [Act.put, List.getElem_toArray, List.getElem_cons_zero, List.getElem_cons_succ, List.setIfInBounds_toArray, List.set_cons_zero, List.set_cons_succ]
  refine wpAnyH_take (i := 4) (v := .int .i64 m) rfl (by kernel_rfl) (by kernel_rfl) (by kernel_rfl) (fun _ _ _ h => h) (Or.inl ⟨by rfl, fun w' h => by go_simp⟩) (by assumption) ?_
  try simp only [Act.put, List.getElem_toArray, List.getElem_cons_zero, List.getElem_cons_succ, List.setIfInBounds_toArray, List.set_cons_zero, List.set_cons_succ]
  refine' wpAnyH_take (i := 5) (v := _) rfl (by kernel_rfl) (by kernel_rfl) (by kernel_rfl) (fun _ _ _ h => h) (yieldsIf_load_mid (by rfl) 28 (.tmp 6) rfl (w.heap.size + 1) (0) rfl (vcells (⟨bfi, bev, bst, bsp, bco, btu⟩ : Wal)) _ (fun w' h => fun j v hv => (rngV (x := (⟨bfi, bev, bst, bsp, bco, btu⟩ : Wal)) (NB.out.below h NB.out.lt)) j v hv) Tryd.underlying28 rfl Tryd.sizeVI2) (by assumption) ?_
  try simp only [Act.put, List.getElem_toArray, List.getElem_cons_zero, List.getElem_cons_succ, List.setIfInBounds_toArray, List.set_cons_zero, List.set_cons_succ]
  refine wpAnyH_take (i := 8) (v := .int .i64 f) rfl (by kernel_rfl) (by kernel_rfl) (by kernel_rfl) (fun _ _ _ h => h) (Or.inl ⟨by rfl, fun w' h => by go_simp⟩) (by assumption) ?_
  try simp only [Act.put, List.getElem_toArray, List.getElem_cons_zero, List.getElem_cons_succ, List.setIfInBounds_toArray, List.set_cons_zero, List.set_cons_succ]
  obtain ⟨D0, hD0⟩ : ∃ D0, w3.drew = D0 := ⟨_, rfl⟩
  rw [hD0] at hHeld ⊢
  clear hD0
  refine wpAnyH_ready (rs := [2]) (by kernel_rfl) (by simp) ?_
  refine AllReadyH.cons rfl (fun K hK => ?_) AllReadyH.nil
  refine if_wanted rfl ?_
  go_simp
  refine (walksOf_any m hm1 hm60 (⟨afi, aev, ast, asp, aco, atu⟩ : Wal) HWa.out _).mono ?_
  rintro e u1 ⟨ga, hga, he, hRa, hb⟩
  have hH2 : Below w3.heap.size w3 u1 := hHeld.trans (hb.mono hHeld.size)
  have he2 : e = .returned (.agg #[.int .i16 afi, .int .i16 aev, .int .i16 ast, .int .i16 asp, .int .i16 aco, .int .i8 atu, .int .i64 afi, .int .i64 aev, .slice (some ⟨ga, 0, none⟩) m m]) := he
  subst he2
  clear he hRa hga
  clear hb hHeld
  dsimp only
  refine hK.out _ _ hH2 (fun hHeld => ?_)
  clear hK K hH2
  try simp only [Act.put, List.getElem_toArray, List.getElem_cons_zero, List.getElem_cons_succ, List.setIfInBounds_toArray, List.set_cons_zero, List.set_cons_succ]
  refine wpAnyH_take (i := 3) (v := .agg #[.int .i64 afi, .int .i64 aev]) rfl (by kernel_rfl) (by kernel_rfl) (by kernel_rfl) (fun _ _ _ h => h) (Or.inl ⟨by rfl, fun w' h => by go_simp⟩) (by assumption) ?_
  try simp only [Act.put, List.getElem_toArray, List.getElem_cons_zero, List.getElem_cons_succ, List.setIfInBounds_toArray, List.set_cons_zero, List.set_cons_succ]
  refine wpAnyH_ready (rs := [6]) (by kernel_rfl) (by simp) ?_
  refine AllReadyH.cons rfl (fun K hK => ?_) AllReadyH.nil
  refine if_wanted rfl ?_
  go_simp
  refine (walksOf_any m hm1 hm60 (⟨bfi, bev, bst, bsp, bco, btu⟩ : Wal) HWb.out _).mono ?_
  rintro e u2 ⟨gb, hgb, he, hRb, hb⟩
  have hH2 : Below w3.heap.size w3 u2 := hHeld.trans (hb.mono hHeld.size)
  have he2 : e = .returned (.agg #[.int .i16 bfi, .int .i16 bev, .int .i16 bst, .int .i16 bsp, .int .i16 bco, .int .i8 btu, .int .i64 bfi, .int .i64 bev, .slice (some ⟨gb, 0, none⟩) m m]) := he
  subst he2
  clear he hRb hgb
  clear hb hHeld
  dsimp only
  refine hK.out _ _ hH2 (fun hHeld => ?_)
  clear hK K hH2
  try simp only [Act.put, List.getElem_toArray, List.getElem_cons_zero, List.getElem_cons_succ, List.setIfInBounds_toArray, List.set_cons_zero, List.set_cons_succ]
  refine wpAnyH_take (i := 7) (v := .agg #[.int .i64 bfi, .int .i64 bev]) rfl (by kernel_rfl) (by kernel_rfl) (by kernel_rfl) (fun _ _ _ h => h) (Or.inl ⟨by rfl, fun w' h => by go_simp⟩) (by assumption) ?_
  try simp only [Act.put, List.getElem_toArray, List.getElem_cons_zero, List.getElem_cons_succ, List.setIfInBounds_toArray, List.set_cons_zero, List.set_cons_succ]
  refine wpAnyH_ready (rs := [9]) (by kernel_rfl) (by simp) ?_
  refine AllReadyH.cons rfl (fun K hK => ?_) AllReadyH.nil
  refine if_wanted rfl ?_
  go_simp
  refine (HMD.out _ (HE.out.below (M2.out.trans (hHeld.mono M2.out.size)) (Nat.le_refl _))).mono ?_
  rintro e u3 ⟨rfl, hb⟩
  have hH2 : Below w3.heap.size w3 u3 := hHeld.trans (hb.mono hHeld.size)
  clear hb hHeld
  dsimp only
  refine hK.out _ _ hH2 (fun hHeld => ?_)
  clear hK K hH2
  try simp only [Act.put, List.getElem_toArray, List.getElem_cons_zero, List.getElem_cons_succ, List.setIfInBounds_toArray, List.set_cons_zero, List.set_cons_succ]
  refine wpAnyH_take (i := 10) (v := .tuple #[.int .i64 dv, ev]) rfl (by kernel_rfl) (by kernel_rfl) (by kernel_rfl) (fun _ _ _ h => h) (Or.inl ⟨by rfl, fun w' h => by go_simp⟩) (by assumption) ?_
  try simp only [Act.put, List.getElem_toArray, List.getElem_cons_zero, List.getElem_cons_succ, List.setIfInBounds_toArray, List.set_cons_zero, List.set_cons_succ]
  refine wpAnyH_take (i := 11) (v := .int .i64 dv) rfl (by kernel_rfl) (by kernel_rfl) (by kernel_rfl) (fun _ _ _ h => h) (Or.inl ⟨by rfl, fun w' h => by go_simp⟩) (by assumption) ?_
  try simp only [Act.put, List.getElem_toArray, List.getElem_cons_zero, List.getElem_cons_succ, List.setIfInBounds_toArray, List.set_cons_zero, List.set_cons_succ]
  refine wpAnyH_take (i := 12) (v := ev) rfl (by kernel_rfl) (by kernel_rfl) (by kernel_rfl) (fun _ _ _ h => h) (Or.inl ⟨by rfl, fun w' h => by go_simp⟩) (by assumption) ?_
  try simp only [Act.put, List.getElem_toArray, List.getElem_cons_zero, List.getElem_cons_succ, List.setIfInBounds_toArray, List.set_cons_zero, List.set_cons_succ]
  refine wpAnyH_ready (rs := [13]) (by kernel_rfl) (by simp) ?_
  refine AllReadyH.cons rfl (fun K hK => ?_) AllReadyH.nil
  refine if_wanted rfl ?_
  refine wp_assign0 (v := .int .i64 dv) rfl rfl ?_
  refine hK.out _ _ hHeld (fun hHeld => ?_)
  clear hK K
  try simp only [Act.put, List.getElem_toArray, List.getElem_cons_zero, List.getElem_cons_succ, List.setIfInBounds_toArray, List.set_cons_zero, List.set_cons_succ]
  refine wpAnyH_ready (rs := [14]) (by kernel_rfl) (by simp) ?_
  refine AllReadyH.cons rfl (fun K hK => ?_) AllReadyH.nil
  refine if_wanted rfl ?_
  refine wp_assign0 (v := ev) rfl rfl ?_
  refine hK.out _ _ hHeld (fun hHeld => ?_)
  clear hK K
  try simp only [Act.put, List.getElem_toArray, List.getElem_cons_zero, List.getElem_cons_succ, List.setIfInBounds_toArray, List.set_cons_zero, List.set_cons_succ]
  refine wpAnyH_done (by kernel_rfl) ?_ _
  try simp only [Act.put, List.getElem_toArray, List.getElem_cons_zero, List.getElem_cons_succ, List.setIfInBounds_toArray, List.set_cons_zero, List.set_cons_succ]
  have hb := hHeld
  clear hHeld
  have HB5 : Hid (Below w.heap.size w u3) := M2.out.trans (hb.mono M2.out.size)
  clear hb
  go_wp2_with fail
  refine (HCo.out _ (HE.out.below HB5.out (Nat.le_refl _))).mono ?_
  rintro e w8 ⟨rfl, rfl⟩
  go_wp2
  go_ret2
  exact ⟨by (rw [E2.out.1, E2.out.2]; first | done | rfl), HB5.out⟩
end Go.Proofs.YtlfamfdgphhbcaaDoor
