/-
  FnExactTakeOldest: for all arguments the law returns true, and they read as before. No condition but that the sentinel errors hold what the program's text lays (tied).
-/
import Derived.Test.YtmfdgpinohbckaaDoorCards
import Derived.Test.YtmfdgpinohbckaaDoorTie
import Derived.Test.YtmfdgpinohbckaaDoorG
import Derived.Test.YtmfdgpinohbckaaDoorTk4
import Derived.Test.YtmfdgpinohbckaaDoorMkRk
import Derived.SevenTiedAt
import Derived.Deep.CutRange
import Derived.Deep.DeepCutAuto
namespace Go.Proofs.YtmfdgpinohbckaaDoor
open Go.ChangeShapes Go.WideShapes Go.ChangeAt Go.RowKit Go.Deep

theorem to_bounds {xss : List (List Wnt)} (hwf : ∀ xs ∈ xss, ∀ x ∈ xs, wfW x) (b : Bot) (s : Int) : (exR (toT s xss b)).length ≤ 8 ∧ ∀ zs ∈ exR (toT s xss b), zs.length ≤ 6 := by
  cases hv : tkO xss [b] s with
  | some i => rw [toT_no hv]; exact ⟨by simp [exR], by simp [exR]⟩
  | none =>
    obtain ⟨h1, h2, h3⟩ := tkO_none hv
    rw [toT_yes hv]
    cases hT : tkT s xss b with
    | error e => exact ⟨by simp [exR], by simp [exR]⟩
    | ok p =>
      obtain ⟨r, x, m⟩ := p
      obtain ⟨b1, -, -, -⟩ := tkT_ok (rkB_ok hwf h1) hT
      have := rkOk_len h1
      exact ⟨by show r.length ≤ 8; rw [b1.1]; exact this, b1.2.1⟩
theorem sum_boundO {T : Type} : ∀ (xss : List (List T)) (m : Nat), (∀ xs ∈ xss, xs.length ≤ m) → sumL xss ≤ xss.length * m
  | [], _, _ => by simp [sumL]
  | xs :: xss, m, h => by
    have h1 := sum_boundO xss m (fun ys hy => h ys (List.mem_cons_of_mem _ hy))
    have h2 := h xs (List.mem_cons_self ..)
    unfold sumL at h1 ⊢
    simp only [List.map_cons, List.sum_cons, List.length_cons, Nat.succ_mul]
    omega
/-- A rack that is empty, or of one's own beside a block. -/
def RdS (w : World) (b : Nat) (A : Option Addr) (c : Nat) (xss : List (List Wnt)) (B : Nat) : Prop := xss = [] ∨ ∃ hs, OwnN w b 44 30 3 wcells A c hs xss ∧ SepL A hs (some ⟨B, 0, none⟩)
theorem RdS.low {w : World} {b : Nat} {A : Option Addr} {c : Nat} {xss : List (List Wnt)} {B : Nat} (h : RdO w b A c xss) (hB : B < b) : RdS w b A c xss B := by
  rcases h with rfl | ⟨hs, h⟩
  · exact .inl rfl
  · refine .inr ⟨hs, h, fun q e => ?_⟩
    obtain rfl : B = q := Option.some.inj e
    refine ⟨fun e2 => ?_, fun i hd hi e2 => ?_⟩
    · have := (own_block h.1 (by rw [ownBlock_slice]; exact e2)).1; omega
    · have hil := (List.getElem?_eq_some_iff.1 hi).1
      obtain ⟨-, ho⟩ := h.2.2.1 i hd _ hi (List.getElem?_eq_getElem (by rw [← h.2.1]; exact hil))
      have := (own_block ho (by rw [ownBlock_slice]; exact e2)).1; omega
theorem RdS.new {w : World} {b : Nat} {A : Option Addr} {c : Nat} {xss : List (List Wnt)} (h : RdO w b A c xss) (o : Obj) : RdS (w.alloc o) b A c xss w.heap.size := by
  rcases h with rfl | ⟨hs, h⟩
  · exact .inl rfl
  · exact .inr ⟨hs, h.keep ((Below.refl _ w).alloc (Nat.le_refl _) _), SepL.new h rfl⟩
theorem RdS.store {w w' : World} {b : Nat} {A : Option Addr} {c : Nat} {xss : List (List Wnt)} {B : Nat} (h : RdS w b A c xss B) (hg : w.grownBy w' ((some ⟨B, 0, none⟩ : Option Addr).map (·.block))) : RdN w' w'.heap.size wcells A xss := by
  rcases h with rfl | ⟨hs, h, hS⟩
  · exact rdN_nil _ _ _ _
  · exact (sep_grow h hg hS (.inl rfl)).1.rd wcells_length
/-- What a drawn region leaves: the rack, the box of the one that was taken. -/
def ToV (L : List (List Wnt)) (k1 y1 n1 : Int) (mv : Nat) (cd : Int) (W : World) (v8 v9 v10 v11 : Value) (wx : World) : Prop := ∃ (A0 : Option Addr) (c0 B : Nat), v8 = .slice A0 L.length c0 ∧ v9 = .pointer (some ⟨B, 0, none⟩) ∧ v10 = .int .i64 mv ∧ v11 = .int .i64 cd ∧ RdN wx wx.heap.size wcells A0 L ∧ Blk wx B 30 #[.int .u8 k1, .int .i16 y1, .int .i16 n1] ∧ W.heap.size ≤ B ∧ Below W.heap.size W wx

set_option maxRecDepth 100000 in
set_option maxHeartbeats 8000000 in
theorem toLaw_any (xss : List (List Wnt)) (A : Option Addr) (c : Nat) (k y s : Int) (hkw : wfB (k, y)) (ad : Nat → Addr) (w : World) (hl0 : xss.length ≤ 9223372036854775807) (hr0 : RdN w w.heap.size wcells A xss) (hx0 : ∀ xs ∈ xss, xs.length ≤ 9223372036854775807) (hw0 : ∀ xs ∈ xss, ∀ x ∈ xs, wfW x) (hE : EW 7 w ad) :
    Calls Tryd.prog 4 #[.slice A xss.length c, .agg #[.int .u8 k, .int .i16 y], .int .i64 s] w (Good w) := by
  have HR0 := Lib.hid hr0
  have HW0 := Lib.hid hw0
  have HKw := Lib.hid hkw
  have HE := Lib.hid hE
  clear hE hr0 hw0 hkw
  have h1 : Blk (w.alloc (.cells #[.int .u8 k, .int .i16 y] 38)) w.heap.size 38 #[.int .u8 k, .int .i16 y] := Blk.new w _ _
  have h2 : Below w.heap.size w (w.alloc (.cells #[.int .u8 k, .int .i16 y] 38)) := (Below.refl _ w).alloc (Nat.le_refl _) _
  obtain ⟨W0, hW0⟩ : ∃ W0, w.alloc (.cells #[.int .u8 k, .int .i16 y] 38) = W0 := ⟨_, rfl⟩
  rw [hW0] at h1 h2
  have KX_0 := Lib.hid h1
  have HB_0 := Lib.hid h2
  clear h1 h2
  go_enter Tryd.func4, Tryd.ntmps4
  go_wp2_with fail
  clear hW0
  refine (szRack_any xss A c (1048576) hl0 hx0 ⟨by omega, by omega⟩ _ (HR0.out.keep HB_0.out)).mono ?_
  rintro e w' ⟨rfl, rfl⟩
  by_cases hn0 : (1048576 : Int) < (xss.length + sumL xss)
  · rw [if_pos hn0]
    go_wp2
    go_ret
    exact ⟨rfl, HB_0.out⟩
  rw [if_neg hn0]
  have hz0 : (0 : Int) ≤ 1048576 - (xss.length + sumL xss) := by omega
  have hm0 : xss.length ≤ 1048576 := by omega
  have hsm0 : sumL xss ≤ 1048576 := by omega
  have hxm0 : ∀ xs ∈ xss, xs.length ≤ 1048576 := fun xs hxs => by obtain ⟨j, hj, rfl⟩ := List.mem_iff_getElem.1 hxs; have := le_sumL (List.getElem?_eq_getElem hj); omega
  obtain ⟨L, hL⟩ : ∃ L, exR (toT s xss (k, y)) = L := ⟨_, rfl⟩
  obtain ⟨cd, hcd⟩ : ∃ cd, cdO (exE (toT s xss (k, y))) = cd := ⟨_, rfl⟩
  obtain ⟨⟨⟨k1, y1⟩, n1⟩, hxx⟩ : ∃ x, exX ((0, 0), 0) (toT s xss (k, y)) = x := ⟨_, rfl⟩
  obtain ⟨mv, hmv⟩ : ∃ m : Nat, exM (toT s xss (k, y)) = m := ⟨_, rfl⟩
  have hLs := to_bounds HW0.out (k, y) s
  rw [hL] at hLs
  have hLl : L.length ≤ 1048576 := by have := hLs.1; omega
  have hLx : ∀ ys ∈ L, ys.length ≤ 1048576 := fun ys hy => by have := hLs.2 ys hy; omega
  have HLx := Lib.hid hLx
  have hLn : sumL L ≤ 1000 := by have := sum_boundO L 6 hLs.2; have := hLs.1; omega
  clear hLs hLx hx0 hl0
  have HS : Hid (∀ A c w, RdN w w.heap.size wcells A xss → Calls Tryd.prog 16 #[.slice A xss.length c, .agg #[.int .u8 k, .int .i16 y], .int .i64 s] w fun e w' => ∃ A' c', e = .returned (.tuple #[.slice A' L.length c', .agg #[.int .u8 k1, .int .i16 y1, .int .i16 n1], .int .i64 mv, .int .i64 cd]) ∧ RdO w' w.heap.size A' c' L ∧ Below w.heap.size w w') := by
    have := fun A c w hr => specTakeOldest_any xss HW0.out k y s HKw.out A c w hm0 hxm0 hr
    rw [hL, hcd, hxx, hmv] at this; exact this
  have HI : Hid (∀ A c w, RdN w w.heap.size wcells A xss → EW 7 w ad → Calls Tryd.prog 18 #[.slice A xss.length c, .agg #[.int .u8 k, .int .i16 y], .int .i64 s] w fun e w' => ∃ A' c' hs, e = .returned (.tuple #[.slice A' L.length c', .agg #[.int .u8 k1, .int .i16 y1, .int .i16 n1], .int .i64 mv, .int .i64 cd]) ∧ OwnN w' w.heap.size 44 30 3 wcells A' c' hs L ∧ Below w.heap.size w w') := by
    have := fun A c w hr hE => implTakeOldest_any xss HW0.out k y s A c ad w hm0 hxm0 hr hE
    rw [hL, hcd, hxx, hmv] at this; exact this
  clear hL hcd hxx hmv
  go_upto_region 5 with fail
  go_cut [8, 9, 10, 11] from 29 to 40 (ToV L k1 y1 n1 mv cd W0)
  case first => as_aux_lemma =>
    refine wp_region_held_drew (S := fun w' => Below W0.heap.size W0 w') (by kernel_rfl) (Below.refl _ _).drew (fun hHeld => ?_)
    refine wpAnyH_take (i := 0) (v := .slice A xss.length c) rfl (by kernel_rfl) (by kernel_rfl) (by kernel_rfl) (fun _ _ _ h => h) (Or.inl ⟨by rfl, fun w' h => by go_simp⟩) (by assumption) ?_
    try simp only [Act.put, List.getElem_toArray, List.getElem_cons_zero, List.getElem_cons_succ, List.setIfInBounds_toArray, List.set_cons_zero, List.set_cons_succ]
    refine wpAnyH_take (i := 2) (v := .agg #[.int .u8 k, .int .i16 y]) rfl (by kernel_rfl) (by kernel_rfl) (by kernel_rfl) (fun _ _ _ h => h) (Or.inl ⟨by rfl, fun w' h => by have HM := (KX_0.out.below (h.mono (Nat.le_refl _)) KX_0.out.lt); have g0 : w'.cell? ⟨w.heap.size, 0, none⟩ = some (.int .u8 k) := HM.cell 0; have g1 : w'.cell? ⟨w.heap.size, 1, none⟩ = some (.int .i16 y) := HM.cell 1; go_simp⟩) (by assumption) ?_
    try simp only [Act.put, List.getElem_toArray, List.getElem_cons_zero, List.getElem_cons_succ, List.setIfInBounds_toArray, List.set_cons_zero, List.set_cons_succ]
    refine wpAnyH_take (i := 4) (v := .int .i64 s) rfl (by kernel_rfl) (by kernel_rfl) (by kernel_rfl) (fun _ _ _ h => h) (Or.inl ⟨by rfl, fun w' h => by go_simp⟩) (by assumption) ?_
    try simp only [Act.put, List.getElem_toArray, List.getElem_cons_zero, List.getElem_cons_succ, List.setIfInBounds_toArray, List.set_cons_zero, List.set_cons_succ]
    obtain ⟨D0, hD0⟩ : ∃ D0, W0.drew = D0 := ⟨_, rfl⟩
    rw [hD0] at hHeld ⊢
    clear hD0
    refine wpAnyH_ready (rs := [1, 11]) (by kernel_rfl) (by simp) ?_
    refine AllReadyH.cons rfl (fun K hK => ?_) (AllReadyH.cons rfl (fun K hK => ?_) AllReadyH.nil)
    · skip
      refine if_wanted rfl ?_
      go_simp
      refine (toRack_any xss A c _ hm0 hxm0 (HR0.out.keep (HB_0.out.trans (hHeld.mono HB_0.out.size)))).mono ?_
      rintro e x1c ⟨rfl, ⟨gs0, hR⟩, hb⟩
      have hH2 : Below W0.heap.size W0 x1c := hHeld.trans (hb.mono hHeld.size)
      clear hb hHeld
      dsimp only
      refine hK.out _ _ hH2 (fun hHeld => ?_)
      clear hK K hH2
      try simp only [Act.put, List.getElem_toArray, List.getElem_cons_zero, List.getElem_cons_succ, List.setIfInBounds_toArray, List.set_cons_zero, List.set_cons_succ]
      refine wpAnyH_ready (rs := [3, 11]) (by kernel_rfl) (by simp) ?_
      refine AllReadyH.cons rfl (fun K hK => ?_) (AllReadyH.cons rfl (fun K hK => ?_) AllReadyH.nil)
      · skip
        refine if_wanted rfl ?_
        go_simp
        refine (toBottle_any k y _).mono ?_
        rintro e x2c ⟨rfl, hb⟩
        have hH2 : Below W0.heap.size W0 x2c := hHeld.trans (hb.mono hHeld.size)
        have hR := hR.keep hb
        clear hb hHeld
        dsimp only
        refine hK.out _ _ hH2 (fun hHeld => ?_)
        clear hK K hH2
        try simp only [Act.put, List.getElem_toArray, List.getElem_cons_zero, List.getElem_cons_succ, List.setIfInBounds_toArray, List.set_cons_zero, List.set_cons_succ]
        refine wpAnyH_ready (rs := [5, 11]) (by kernel_rfl) (by simp) ?_
        refine AllReadyH.cons rfl (fun K hK => ?_) (AllReadyH.cons rfl (fun K hK => ?_) AllReadyH.nil)
        · skip
          refine if_wanted rfl ?_
          go_simp
          refine (HS.out _ _ _ hR.rd).mono ?_
          rintro e x3c ⟨A5, c5, rfl, hV, hb⟩
          have hH2 : Below W0.heap.size W0 x3c := hHeld.trans (hb.mono hHeld.size)
          clear hb hHeld hR
          dsimp only
          refine hK.out _ _ hH2 (fun hHeld => ?_)
          clear hK K hH2
          try simp only [Act.put, List.getElem_toArray, List.getElem_cons_zero, List.getElem_cons_succ, List.setIfInBounds_toArray, List.set_cons_zero, List.set_cons_succ]
          refine wpAnyH_take (i := 6) (v := .tuple #[.slice A5 L.length c5, .agg #[.int .u8 k1, .int .i16 y1, .int .i16 n1], .int .i64 mv, .int .i64 cd]) rfl (by kernel_rfl) (by kernel_rfl) (by kernel_rfl) (fun _ _ _ h => h) (Or.inl ⟨by rfl, fun w' h => by go_simp⟩) (by assumption) ?_
          try simp only [Act.put, List.getElem_toArray, List.getElem_cons_zero, List.getElem_cons_succ, List.setIfInBounds_toArray, List.set_cons_zero, List.set_cons_succ]
          refine wpAnyH_take (i := 7) (v := .slice A5 L.length c5) rfl (by kernel_rfl) (by kernel_rfl) (by kernel_rfl) (fun _ _ _ h => h) (Or.inl ⟨by rfl, fun w' h => by go_simp⟩) (by assumption) ?_
          try simp only [Act.put, List.getElem_toArray, List.getElem_cons_zero, List.getElem_cons_succ, List.setIfInBounds_toArray, List.set_cons_zero, List.set_cons_succ]
          refine wpAnyH_take (i := 8) (v := .agg #[.int .u8 k1, .int .i16 y1, .int .i16 n1]) rfl (by kernel_rfl) (by kernel_rfl) (by kernel_rfl) (fun _ _ _ h => h) (Or.inl ⟨by rfl, fun w' h => by go_simp⟩) (by assumption) ?_
          try simp only [Act.put, List.getElem_toArray, List.getElem_cons_zero, List.getElem_cons_succ, List.setIfInBounds_toArray, List.set_cons_zero, List.set_cons_succ]
          refine wpAnyH_take (i := 9) (v := .int .i64 mv) rfl (by kernel_rfl) (by kernel_rfl) (by kernel_rfl) (fun _ _ _ h => h) (Or.inl ⟨by rfl, fun w' h => by go_simp⟩) (by assumption) ?_
          try simp only [Act.put, List.getElem_toArray, List.getElem_cons_zero, List.getElem_cons_succ, List.setIfInBounds_toArray, List.set_cons_zero, List.set_cons_succ]
          refine wpAnyH_take (i := 10) (v := .int .i64 cd) rfl (by kernel_rfl) (by kernel_rfl) (by kernel_rfl) (fun _ _ _ h => h) (Or.inl ⟨by rfl, fun w' h => by go_simp⟩) (by assumption) ?_
          try simp only [Act.put, List.getElem_toArray, List.getElem_cons_zero, List.getElem_cons_succ, List.setIfInBounds_toArray, List.set_cons_zero, List.set_cons_succ]
          refine wpAnyH_ready (rs := [11]) (by kernel_rfl) (by simp) ?_
          refine AllReadyH.cons rfl (fun K hK => ?_) AllReadyH.nil
          refine if_wanted rfl ?_
          go_simp
          have hWB : W0.heap.size ≤ x3c.heap.size := hHeld.size
          have hH2 : Below W0.heap.size W0 (x3c.alloc (.cells #[.int .u8 0, .int .i16 0, .int .i16 0] 30)) := hHeld.alloc hHeld.size _
          have hKB : Blk (x3c.alloc (.cells #[.int .u8 0, .int .i16 0, .int .i16 0] 30)) x3c.heap.size 30 #[.int .u8 0, .int .i16 0, .int .i16 0] := Blk.new x3c _ _
          have hA1 : Below x3c.heap.size x3c (x3c.alloc (.cells #[.int .u8 0, .int .i16 0, .int .i16 0] 30)) := (Below.refl _ _).alloc (Nat.le_refl _) _
          have hV := RdS.new hV (.cells #[.int .u8 0, .int .i16 0, .int .i16 0] 30)
          obtain ⟨x4a, hu⟩ : ∃ u, x3c.alloc (.cells #[.int .u8 0, .int .i16 0, .int .i16 0] 30) = u := ⟨_, rfl⟩
          rw [hu] at hH2 hKB hV ⊢
          clear hu hA1
          obtain ⟨B, hB⟩ : ∃ B, x3c.heap.size = B := ⟨_, rfl⟩
          rw [hB] at hKB hWB hV ⊢
          clear hB hHeld
          try dsimp only
          refine hK.out _ _ hH2 (fun hHeld => ?_)
          clear hK K hH2
          try simp only [Act.put, List.getElem_toArray, List.getElem_cons_zero, List.getElem_cons_succ, List.setIfInBounds_toArray, List.set_cons_zero, List.set_cons_succ]
          refine wpAnyH_ready (rs := [12]) (by kernel_rfl) (by simp) ?_
          refine AllReadyH.cons rfl (fun K hK => ?_) AllReadyH.nil
          refine if_wanted rfl ?_
          refine wp_assign0 (v := .slice A5 L.length c5) rfl rfl ?_
          refine hK.out _ _ hHeld (fun hHeld => ?_)
          clear hK K
          try simp only [Act.put, List.getElem_toArray, List.getElem_cons_zero, List.getElem_cons_succ, List.setIfInBounds_toArray, List.set_cons_zero, List.set_cons_succ]
          refine wpAnyH_ready (rs := [13]) (by kernel_rfl) (by simp) ?_
          refine AllReadyH.cons rfl (fun K hK => ?_) AllReadyH.nil
          refine if_wanted rfl ?_
          have d0 : x4a.cell? ⟨B, 0, none⟩ = some (.int .u8 0) := hKB.cell 0
          have f0 : x4a.frozen? ⟨B, 0, none⟩ = false := hKB.frozen 0
          have d1 : x4a.cell? ⟨B, 1, none⟩ = some (.int .i16 0) := hKB.cell 1
          have f1 : x4a.frozen? ⟨B, 1, none⟩ = false := hKB.frozen 1
          have d2 : x4a.cell? ⟨B, 2, none⟩ = some (.int .i16 0) := hKB.cell 2
          have f2 : x4a.frozen? ⟨B, 2, none⟩ = false := hKB.frozen 2
          go_simp
          clear d0 d1 d2 f0 f1 f2
          have hU : Below W0.heap.size W0 (((x4a.setCell ⟨B, 0, none⟩ (.int .u8 k1)).setCell ⟨B, 1, none⟩ (.int .i16 y1)).setCell ⟨B, 2, none⟩ (.int .i16 n1)) := ((hHeld.setCell (p := ⟨B, 0, none⟩) hWB _).setCell (p := ⟨B, 1, none⟩) hWB _).setCell (p := ⟨B, 2, none⟩) hWB _
          have hKU : Blk (((x4a.setCell ⟨B, 0, none⟩ (.int .u8 k1)).setCell ⟨B, 1, none⟩ (.int .i16 y1)).setCell ⟨B, 2, none⟩ (.int .i16 n1)) B 30 #[.int .u8 k1, .int .i16 y1, .int .i16 n1] := by have := ((hKB.set_ 0 (.int .u8 k1)).set_ 1 (.int .i16 y1)).set_ 2 (.int .i16 n1); simpa using this
          have hRU := RdS.store hV (show x4a.grownBy (((x4a.setCell ⟨B, 0, none⟩ (.int .u8 k1)).setCell ⟨B, 1, none⟩ (.int .i16 y1)).setCell ⟨B, 2, none⟩ (.int .i16 n1)) ((some ⟨B, 0, none⟩ : Option Addr).map (·.block)) from gk_set (gk_set (gk_set (gk_refl x4a (some B)) _) _) _)
          clear hHeld
          refine hK.out _ _ hU (fun hHeld => ?_)
          clear hK K
          try simp only [Act.put, List.getElem_toArray, List.getElem_cons_zero, List.getElem_cons_succ, List.setIfInBounds_toArray, List.set_cons_zero, List.set_cons_succ]
          refine wpAnyH_ready (rs := [14]) (by kernel_rfl) (by simp) ?_
          refine AllReadyH.cons rfl (fun K hK => ?_) AllReadyH.nil
          refine if_wanted rfl ?_
          refine wp_assign0 (v := .int .i64 mv) rfl rfl ?_
          refine hK.out _ _ hHeld (fun hHeld => ?_)
          clear hK K
          try simp only [Act.put, List.getElem_toArray, List.getElem_cons_zero, List.getElem_cons_succ, List.setIfInBounds_toArray, List.set_cons_zero, List.set_cons_succ]
          refine wpAnyH_ready (rs := [15]) (by kernel_rfl) (by simp) ?_
          refine AllReadyH.cons rfl (fun K hK => ?_) AllReadyH.nil
          refine if_wanted rfl ?_
          refine wp_assign0 (v := .int .i64 cd) rfl rfl ?_
          refine hK.out _ _ hHeld (fun hHeld => ?_)
          clear hK K
          try simp only [Act.put, List.getElem_toArray, List.getElem_cons_zero, List.getElem_cons_succ, List.setIfInBounds_toArray, List.set_cons_zero, List.set_cons_succ]
          refine wpAnyH_done (by kernel_rfl) ?_ _
          try simp only [Act.put, List.getElem_toArray, List.getElem_cons_zero, List.getElem_cons_succ, List.setIfInBounds_toArray, List.set_cons_zero, List.set_cons_succ]
          go_wp2_with fail
          go_meet
          exact ⟨A5, c5, B, rfl, rfl, rfl, rfl, hRU, hKU, hWB, hHeld⟩
        · skip
          refine if_wanted rfl ?_
          go_simp
          have hWB : W0.heap.size ≤ x2c.heap.size := hHeld.size
          have hH2 : Below W0.heap.size W0 (x2c.alloc (.cells #[.int .u8 0, .int .i16 0, .int .i16 0] 30)) := hHeld.alloc hHeld.size _
          have hKB : Blk (x2c.alloc (.cells #[.int .u8 0, .int .i16 0, .int .i16 0] 30)) x2c.heap.size 30 #[.int .u8 0, .int .i16 0, .int .i16 0] := Blk.new x2c _ _
          have hA1 : Below x2c.heap.size x2c (x2c.alloc (.cells #[.int .u8 0, .int .i16 0, .int .i16 0] 30)) := (Below.refl _ _).alloc (Nat.le_refl _) _
          have hR := hR.keep hA1
          obtain ⟨x5a, hu⟩ : ∃ u, x2c.alloc (.cells #[.int .u8 0, .int .i16 0, .int .i16 0] 30) = u := ⟨_, rfl⟩
          rw [hu] at hH2 hKB hR ⊢
          clear hu hA1
          obtain ⟨B, hB⟩ : ∃ B, x2c.heap.size = B := ⟨_, rfl⟩
          rw [hB] at hKB hWB ⊢
          clear hB hHeld
          try dsimp only
          refine hK.out _ _ hH2 (fun hHeld => ?_)
          clear hK K hH2
          try simp only [Act.put, List.getElem_toArray, List.getElem_cons_zero, List.getElem_cons_succ, List.setIfInBounds_toArray, List.set_cons_zero, List.set_cons_succ]
          refine wpAnyH_ready (rs := [5]) (by kernel_rfl) (by simp) ?_
          refine AllReadyH.cons rfl (fun K hK => ?_) AllReadyH.nil
          refine if_wanted rfl ?_
          go_simp
          refine (HS.out _ _ _ hR.rd).mono ?_
          rintro e x6c ⟨A5, c5, rfl, hV, hb⟩
          have hH2 : Below W0.heap.size W0 x6c := hHeld.trans (hb.mono hHeld.size)
          have hV := RdS.low (B := B) hV hKB.lt
          have hKB := hKB.keep hb
          clear hb hHeld hR
          dsimp only
          refine hK.out _ _ hH2 (fun hHeld => ?_)
          clear hK K hH2
          try simp only [Act.put, List.getElem_toArray, List.getElem_cons_zero, List.getElem_cons_succ, List.setIfInBounds_toArray, List.set_cons_zero, List.set_cons_succ]
          refine wpAnyH_take (i := 6) (v := .tuple #[.slice A5 L.length c5, .agg #[.int .u8 k1, .int .i16 y1, .int .i16 n1], .int .i64 mv, .int .i64 cd]) rfl (by kernel_rfl) (by kernel_rfl) (by kernel_rfl) (fun _ _ _ h => h) (Or.inl ⟨by rfl, fun w' h => by go_simp⟩) (by assumption) ?_
          try simp only [Act.put, List.getElem_toArray, List.getElem_cons_zero, List.getElem_cons_succ, List.setIfInBounds_toArray, List.set_cons_zero, List.set_cons_succ]
          refine wpAnyH_take (i := 7) (v := .slice A5 L.length c5) rfl (by kernel_rfl) (by kernel_rfl) (by kernel_rfl) (fun _ _ _ h => h) (Or.inl ⟨by rfl, fun w' h => by go_simp⟩) (by assumption) ?_
          try simp only [Act.put, List.getElem_toArray, List.getElem_cons_zero, List.getElem_cons_succ, List.setIfInBounds_toArray, List.set_cons_zero, List.set_cons_succ]
          refine wpAnyH_take (i := 8) (v := .agg #[.int .u8 k1, .int .i16 y1, .int .i16 n1]) rfl (by kernel_rfl) (by kernel_rfl) (by kernel_rfl) (fun _ _ _ h => h) (Or.inl ⟨by rfl, fun w' h => by go_simp⟩) (by assumption) ?_
          try simp only [Act.put, List.getElem_toArray, List.getElem_cons_zero, List.getElem_cons_succ, List.setIfInBounds_toArray, List.set_cons_zero, List.set_cons_succ]
          refine wpAnyH_take (i := 9) (v := .int .i64 mv) rfl (by kernel_rfl) (by kernel_rfl) (by kernel_rfl) (fun _ _ _ h => h) (Or.inl ⟨by rfl, fun w' h => by go_simp⟩) (by assumption) ?_
          try simp only [Act.put, List.getElem_toArray, List.getElem_cons_zero, List.getElem_cons_succ, List.setIfInBounds_toArray, List.set_cons_zero, List.set_cons_succ]
          refine wpAnyH_take (i := 10) (v := .int .i64 cd) rfl (by kernel_rfl) (by kernel_rfl) (by kernel_rfl) (fun _ _ _ h => h) (Or.inl ⟨by rfl, fun w' h => by go_simp⟩) (by assumption) ?_
          try simp only [Act.put, List.getElem_toArray, List.getElem_cons_zero, List.getElem_cons_succ, List.setIfInBounds_toArray, List.set_cons_zero, List.set_cons_succ]
          refine wpAnyH_ready (rs := [12]) (by kernel_rfl) (by simp) ?_
          refine AllReadyH.cons rfl (fun K hK => ?_) AllReadyH.nil
          refine if_wanted rfl ?_
          refine wp_assign0 (v := .slice A5 L.length c5) rfl rfl ?_
          refine hK.out _ _ hHeld (fun hHeld => ?_)
          clear hK K
          try simp only [Act.put, List.getElem_toArray, List.getElem_cons_zero, List.getElem_cons_succ, List.setIfInBounds_toArray, List.set_cons_zero, List.set_cons_succ]
          refine wpAnyH_ready (rs := [13]) (by kernel_rfl) (by simp) ?_
          refine AllReadyH.cons rfl (fun K hK => ?_) AllReadyH.nil
          refine if_wanted rfl ?_
          have d0 : x6c.cell? ⟨B, 0, none⟩ = some (.int .u8 0) := hKB.cell 0
          have f0 : x6c.frozen? ⟨B, 0, none⟩ = false := hKB.frozen 0
          have d1 : x6c.cell? ⟨B, 1, none⟩ = some (.int .i16 0) := hKB.cell 1
          have f1 : x6c.frozen? ⟨B, 1, none⟩ = false := hKB.frozen 1
          have d2 : x6c.cell? ⟨B, 2, none⟩ = some (.int .i16 0) := hKB.cell 2
          have f2 : x6c.frozen? ⟨B, 2, none⟩ = false := hKB.frozen 2
          go_simp
          clear d0 d1 d2 f0 f1 f2
          have hU : Below W0.heap.size W0 (((x6c.setCell ⟨B, 0, none⟩ (.int .u8 k1)).setCell ⟨B, 1, none⟩ (.int .i16 y1)).setCell ⟨B, 2, none⟩ (.int .i16 n1)) := ((hHeld.setCell (p := ⟨B, 0, none⟩) hWB _).setCell (p := ⟨B, 1, none⟩) hWB _).setCell (p := ⟨B, 2, none⟩) hWB _
          have hKU : Blk (((x6c.setCell ⟨B, 0, none⟩ (.int .u8 k1)).setCell ⟨B, 1, none⟩ (.int .i16 y1)).setCell ⟨B, 2, none⟩ (.int .i16 n1)) B 30 #[.int .u8 k1, .int .i16 y1, .int .i16 n1] := by have := ((hKB.set_ 0 (.int .u8 k1)).set_ 1 (.int .i16 y1)).set_ 2 (.int .i16 n1); simpa using this
          have hRU := RdS.store hV (show x6c.grownBy (((x6c.setCell ⟨B, 0, none⟩ (.int .u8 k1)).setCell ⟨B, 1, none⟩ (.int .i16 y1)).setCell ⟨B, 2, none⟩ (.int .i16 n1)) ((some ⟨B, 0, none⟩ : Option Addr).map (·.block)) from gk_set (gk_set (gk_set (gk_refl x6c (some B)) _) _) _)
          clear hHeld
          refine hK.out _ _ hU (fun hHeld => ?_)
          clear hK K
          try simp only [Act.put, List.getElem_toArray, List.getElem_cons_zero, List.getElem_cons_succ, List.setIfInBounds_toArray, List.set_cons_zero, List.set_cons_succ]
          refine wpAnyH_ready (rs := [14]) (by kernel_rfl) (by simp) ?_
          refine AllReadyH.cons rfl (fun K hK => ?_) AllReadyH.nil
          refine if_wanted rfl ?_
          refine wp_assign0 (v := .int .i64 mv) rfl rfl ?_
          refine hK.out _ _ hHeld (fun hHeld => ?_)
          clear hK K
          try simp only [Act.put, List.getElem_toArray, List.getElem_cons_zero, List.getElem_cons_succ, List.setIfInBounds_toArray, List.set_cons_zero, List.set_cons_succ]
          refine wpAnyH_ready (rs := [15]) (by kernel_rfl) (by simp) ?_
          refine AllReadyH.cons rfl (fun K hK => ?_) AllReadyH.nil
          refine if_wanted rfl ?_
          refine wp_assign0 (v := .int .i64 cd) rfl rfl ?_
          refine hK.out _ _ hHeld (fun hHeld => ?_)
          clear hK K
          try simp only [Act.put, List.getElem_toArray, List.getElem_cons_zero, List.getElem_cons_succ, List.setIfInBounds_toArray, List.set_cons_zero, List.set_cons_succ]
          refine wpAnyH_done (by kernel_rfl) ?_ _
          try simp only [Act.put, List.getElem_toArray, List.getElem_cons_zero, List.getElem_cons_succ, List.setIfInBounds_toArray, List.set_cons_zero, List.set_cons_succ]
          go_wp2_with fail
          go_meet
          exact ⟨A5, c5, B, rfl, rfl, rfl, rfl, hRU, hKU, hWB, hHeld⟩
      · skip
        refine if_wanted rfl ?_
        go_simp
        have hWB : W0.heap.size ≤ x1c.heap.size := hHeld.size
        have hH2 : Below W0.heap.size W0 (x1c.alloc (.cells #[.int .u8 0, .int .i16 0, .int .i16 0] 30)) := hHeld.alloc hHeld.size _
        have hKB : Blk (x1c.alloc (.cells #[.int .u8 0, .int .i16 0, .int .i16 0] 30)) x1c.heap.size 30 #[.int .u8 0, .int .i16 0, .int .i16 0] := Blk.new x1c _ _
        have hA1 : Below x1c.heap.size x1c (x1c.alloc (.cells #[.int .u8 0, .int .i16 0, .int .i16 0] 30)) := (Below.refl _ _).alloc (Nat.le_refl _) _
        have hR := hR.keep hA1
        obtain ⟨x7a, hu⟩ : ∃ u, x1c.alloc (.cells #[.int .u8 0, .int .i16 0, .int .i16 0] 30) = u := ⟨_, rfl⟩
        rw [hu] at hH2 hKB hR ⊢
        clear hu hA1
        obtain ⟨B, hB⟩ : ∃ B, x1c.heap.size = B := ⟨_, rfl⟩
        rw [hB] at hKB hWB ⊢
        clear hB hHeld
        try dsimp only
        refine hK.out _ _ hH2 (fun hHeld => ?_)
        clear hK K hH2
        try simp only [Act.put, List.getElem_toArray, List.getElem_cons_zero, List.getElem_cons_succ, List.setIfInBounds_toArray, List.set_cons_zero, List.set_cons_succ]
        refine wpAnyH_ready (rs := [3]) (by kernel_rfl) (by simp) ?_
        refine AllReadyH.cons rfl (fun K hK => ?_) AllReadyH.nil
        refine if_wanted rfl ?_
        go_simp
        refine (toBottle_any k y _).mono ?_
        rintro e x8c ⟨rfl, hb⟩
        have hH2 : Below W0.heap.size W0 x8c := hHeld.trans (hb.mono hHeld.size)
        have hR := hR.keep hb
        have hKB := hKB.keep hb
        clear hb hHeld
        dsimp only
        refine hK.out _ _ hH2 (fun hHeld => ?_)
        clear hK K hH2
        try simp only [Act.put, List.getElem_toArray, List.getElem_cons_zero, List.getElem_cons_succ, List.setIfInBounds_toArray, List.set_cons_zero, List.set_cons_succ]
        refine wpAnyH_ready (rs := [5]) (by kernel_rfl) (by simp) ?_
        refine AllReadyH.cons rfl (fun K hK => ?_) AllReadyH.nil
        refine if_wanted rfl ?_
        go_simp
        refine (HS.out _ _ _ hR.rd).mono ?_
        rintro e x9c ⟨A5, c5, rfl, hV, hb⟩
        have hH2 : Below W0.heap.size W0 x9c := hHeld.trans (hb.mono hHeld.size)
        have hV := RdS.low (B := B) hV hKB.lt
        have hKB := hKB.keep hb
        clear hb hHeld hR
        dsimp only
        refine hK.out _ _ hH2 (fun hHeld => ?_)
        clear hK K hH2
        try simp only [Act.put, List.getElem_toArray, List.getElem_cons_zero, List.getElem_cons_succ, List.setIfInBounds_toArray, List.set_cons_zero, List.set_cons_succ]
        refine wpAnyH_take (i := 6) (v := .tuple #[.slice A5 L.length c5, .agg #[.int .u8 k1, .int .i16 y1, .int .i16 n1], .int .i64 mv, .int .i64 cd]) rfl (by kernel_rfl) (by kernel_rfl) (by kernel_rfl) (fun _ _ _ h => h) (Or.inl ⟨by rfl, fun w' h => by go_simp⟩) (by assumption) ?_
        try simp only [Act.put, List.getElem_toArray, List.getElem_cons_zero, List.getElem_cons_succ, List.setIfInBounds_toArray, List.set_cons_zero, List.set_cons_succ]
        refine wpAnyH_take (i := 7) (v := .slice A5 L.length c5) rfl (by kernel_rfl) (by kernel_rfl) (by kernel_rfl) (fun _ _ _ h => h) (Or.inl ⟨by rfl, fun w' h => by go_simp⟩) (by assumption) ?_
        try simp only [Act.put, List.getElem_toArray, List.getElem_cons_zero, List.getElem_cons_succ, List.setIfInBounds_toArray, List.set_cons_zero, List.set_cons_succ]
        refine wpAnyH_take (i := 8) (v := .agg #[.int .u8 k1, .int .i16 y1, .int .i16 n1]) rfl (by kernel_rfl) (by kernel_rfl) (by kernel_rfl) (fun _ _ _ h => h) (Or.inl ⟨by rfl, fun w' h => by go_simp⟩) (by assumption) ?_
        try simp only [Act.put, List.getElem_toArray, List.getElem_cons_zero, List.getElem_cons_succ, List.setIfInBounds_toArray, List.set_cons_zero, List.set_cons_succ]
        refine wpAnyH_take (i := 9) (v := .int .i64 mv) rfl (by kernel_rfl) (by kernel_rfl) (by kernel_rfl) (fun _ _ _ h => h) (Or.inl ⟨by rfl, fun w' h => by go_simp⟩) (by assumption) ?_
        try simp only [Act.put, List.getElem_toArray, List.getElem_cons_zero, List.getElem_cons_succ, List.setIfInBounds_toArray, List.set_cons_zero, List.set_cons_succ]
        refine wpAnyH_take (i := 10) (v := .int .i64 cd) rfl (by kernel_rfl) (by kernel_rfl) (by kernel_rfl) (fun _ _ _ h => h) (Or.inl ⟨by rfl, fun w' h => by go_simp⟩) (by assumption) ?_
        try simp only [Act.put, List.getElem_toArray, List.getElem_cons_zero, List.getElem_cons_succ, List.setIfInBounds_toArray, List.set_cons_zero, List.set_cons_succ]
        refine wpAnyH_ready (rs := [12]) (by kernel_rfl) (by simp) ?_
        refine AllReadyH.cons rfl (fun K hK => ?_) AllReadyH.nil
        refine if_wanted rfl ?_
        refine wp_assign0 (v := .slice A5 L.length c5) rfl rfl ?_
        refine hK.out _ _ hHeld (fun hHeld => ?_)
        clear hK K
        try simp only [Act.put, List.getElem_toArray, List.getElem_cons_zero, List.getElem_cons_succ, List.setIfInBounds_toArray, List.set_cons_zero, List.set_cons_succ]
        refine wpAnyH_ready (rs := [13]) (by kernel_rfl) (by simp) ?_
        refine AllReadyH.cons rfl (fun K hK => ?_) AllReadyH.nil
        refine if_wanted rfl ?_
        have d0 : x9c.cell? ⟨B, 0, none⟩ = some (.int .u8 0) := hKB.cell 0
        have f0 : x9c.frozen? ⟨B, 0, none⟩ = false := hKB.frozen 0
        have d1 : x9c.cell? ⟨B, 1, none⟩ = some (.int .i16 0) := hKB.cell 1
        have f1 : x9c.frozen? ⟨B, 1, none⟩ = false := hKB.frozen 1
        have d2 : x9c.cell? ⟨B, 2, none⟩ = some (.int .i16 0) := hKB.cell 2
        have f2 : x9c.frozen? ⟨B, 2, none⟩ = false := hKB.frozen 2
        go_simp
        clear d0 d1 d2 f0 f1 f2
        have hU : Below W0.heap.size W0 (((x9c.setCell ⟨B, 0, none⟩ (.int .u8 k1)).setCell ⟨B, 1, none⟩ (.int .i16 y1)).setCell ⟨B, 2, none⟩ (.int .i16 n1)) := ((hHeld.setCell (p := ⟨B, 0, none⟩) hWB _).setCell (p := ⟨B, 1, none⟩) hWB _).setCell (p := ⟨B, 2, none⟩) hWB _
        have hKU : Blk (((x9c.setCell ⟨B, 0, none⟩ (.int .u8 k1)).setCell ⟨B, 1, none⟩ (.int .i16 y1)).setCell ⟨B, 2, none⟩ (.int .i16 n1)) B 30 #[.int .u8 k1, .int .i16 y1, .int .i16 n1] := by have := ((hKB.set_ 0 (.int .u8 k1)).set_ 1 (.int .i16 y1)).set_ 2 (.int .i16 n1); simpa using this
        have hRU := RdS.store hV (show x9c.grownBy (((x9c.setCell ⟨B, 0, none⟩ (.int .u8 k1)).setCell ⟨B, 1, none⟩ (.int .i16 y1)).setCell ⟨B, 2, none⟩ (.int .i16 n1)) ((some ⟨B, 0, none⟩ : Option Addr).map (·.block)) from gk_set (gk_set (gk_set (gk_refl x9c (some B)) _) _) _)
        clear hHeld
        refine hK.out _ _ hU (fun hHeld => ?_)
        clear hK K
        try simp only [Act.put, List.getElem_toArray, List.getElem_cons_zero, List.getElem_cons_succ, List.setIfInBounds_toArray, List.set_cons_zero, List.set_cons_succ]
        refine wpAnyH_ready (rs := [14]) (by kernel_rfl) (by simp) ?_
        refine AllReadyH.cons rfl (fun K hK => ?_) AllReadyH.nil
        refine if_wanted rfl ?_
        refine wp_assign0 (v := .int .i64 mv) rfl rfl ?_
        refine hK.out _ _ hHeld (fun hHeld => ?_)
        clear hK K
        try simp only [Act.put, List.getElem_toArray, List.getElem_cons_zero, List.getElem_cons_succ, List.setIfInBounds_toArray, List.set_cons_zero, List.set_cons_succ]
        refine wpAnyH_ready (rs := [15]) (by kernel_rfl) (by simp) ?_
        refine AllReadyH.cons rfl (fun K hK => ?_) AllReadyH.nil
        refine if_wanted rfl ?_
        refine wp_assign0 (v := .int .i64 cd) rfl rfl ?_
        refine hK.out _ _ hHeld (fun hHeld => ?_)
        clear hK K
        try simp only [Act.put, List.getElem_toArray, List.getElem_cons_zero, List.getElem_cons_succ, List.setIfInBounds_toArray, List.set_cons_zero, List.set_cons_succ]
        refine wpAnyH_done (by kernel_rfl) ?_ _
        try simp only [Act.put, List.getElem_toArray, List.getElem_cons_zero, List.getElem_cons_succ, List.setIfInBounds_toArray, List.set_cons_zero, List.set_cons_succ]
        go_wp2_with fail
        go_meet
        exact ⟨A5, c5, B, rfl, rfl, rfl, rfl, hRU, hKU, hWB, hHeld⟩
    · skip
      refine if_wanted rfl ?_
      go_simp
      have hWB : W0.heap.size ≤ D0.heap.size := hHeld.size
      have hH2 : Below W0.heap.size W0 (D0.alloc (.cells #[.int .u8 0, .int .i16 0, .int .i16 0] 30)) := hHeld.alloc hHeld.size _
      have hKB : Blk (D0.alloc (.cells #[.int .u8 0, .int .i16 0, .int .i16 0] 30)) D0.heap.size 30 #[.int .u8 0, .int .i16 0, .int .i16 0] := Blk.new D0 _ _
      have hA1 : Below D0.heap.size D0 (D0.alloc (.cells #[.int .u8 0, .int .i16 0, .int .i16 0] 30)) := (Below.refl _ _).alloc (Nat.le_refl _) _
      obtain ⟨x10a, hu⟩ : ∃ u, D0.alloc (.cells #[.int .u8 0, .int .i16 0, .int .i16 0] 30) = u := ⟨_, rfl⟩
      rw [hu] at hH2 hKB ⊢
      clear hu hA1
      obtain ⟨B, hB⟩ : ∃ B, D0.heap.size = B := ⟨_, rfl⟩
      rw [hB] at hKB hWB ⊢
      clear hB hHeld
      try dsimp only
      refine hK.out _ _ hH2 (fun hHeld => ?_)
      clear hK K hH2
      try simp only [Act.put, List.getElem_toArray, List.getElem_cons_zero, List.getElem_cons_succ, List.setIfInBounds_toArray, List.set_cons_zero, List.set_cons_succ]
      refine wpAnyH_ready (rs := [1]) (by kernel_rfl) (by simp) ?_
      refine AllReadyH.cons rfl (fun K hK => ?_) AllReadyH.nil
      refine if_wanted rfl ?_
      go_simp
      refine (toRack_any xss A c _ hm0 hxm0 (HR0.out.keep (HB_0.out.trans (hHeld.mono HB_0.out.size)))).mono ?_
      rintro e x11c ⟨rfl, ⟨gs0, hR⟩, hb⟩
      have hH2 : Below W0.heap.size W0 x11c := hHeld.trans (hb.mono hHeld.size)
      have hKB := hKB.keep hb
      clear hb hHeld
      dsimp only
      refine hK.out _ _ hH2 (fun hHeld => ?_)
      clear hK K hH2
      try simp only [Act.put, List.getElem_toArray, List.getElem_cons_zero, List.getElem_cons_succ, List.setIfInBounds_toArray, List.set_cons_zero, List.set_cons_succ]
      refine wpAnyH_ready (rs := [3]) (by kernel_rfl) (by simp) ?_
      refine AllReadyH.cons rfl (fun K hK => ?_) AllReadyH.nil
      refine if_wanted rfl ?_
      go_simp
      refine (toBottle_any k y _).mono ?_
      rintro e x12c ⟨rfl, hb⟩
      have hH2 : Below W0.heap.size W0 x12c := hHeld.trans (hb.mono hHeld.size)
      have hR := hR.keep hb
      have hKB := hKB.keep hb
      clear hb hHeld
      dsimp only
      refine hK.out _ _ hH2 (fun hHeld => ?_)
      clear hK K hH2
      try simp only [Act.put, List.getElem_toArray, List.getElem_cons_zero, List.getElem_cons_succ, List.setIfInBounds_toArray, List.set_cons_zero, List.set_cons_succ]
      refine wpAnyH_ready (rs := [5]) (by kernel_rfl) (by simp) ?_
      refine AllReadyH.cons rfl (fun K hK => ?_) AllReadyH.nil
      refine if_wanted rfl ?_
      go_simp
      refine (HS.out _ _ _ hR.rd).mono ?_
      rintro e x13c ⟨A5, c5, rfl, hV, hb⟩
      have hH2 : Below W0.heap.size W0 x13c := hHeld.trans (hb.mono hHeld.size)
      have hV := RdS.low (B := B) hV hKB.lt
      have hKB := hKB.keep hb
      clear hb hHeld hR
      dsimp only
      refine hK.out _ _ hH2 (fun hHeld => ?_)
      clear hK K hH2
      try simp only [Act.put, List.getElem_toArray, List.getElem_cons_zero, List.getElem_cons_succ, List.setIfInBounds_toArray, List.set_cons_zero, List.set_cons_succ]
      refine wpAnyH_take (i := 6) (v := .tuple #[.slice A5 L.length c5, .agg #[.int .u8 k1, .int .i16 y1, .int .i16 n1], .int .i64 mv, .int .i64 cd]) rfl (by kernel_rfl) (by kernel_rfl) (by kernel_rfl) (fun _ _ _ h => h) (Or.inl ⟨by rfl, fun w' h => by go_simp⟩) (by assumption) ?_
      try simp only [Act.put, List.getElem_toArray, List.getElem_cons_zero, List.getElem_cons_succ, List.setIfInBounds_toArray, List.set_cons_zero, List.set_cons_succ]
      refine wpAnyH_take (i := 7) (v := .slice A5 L.length c5) rfl (by kernel_rfl) (by kernel_rfl) (by kernel_rfl) (fun _ _ _ h => h) (Or.inl ⟨by rfl, fun w' h => by go_simp⟩) (by assumption) ?_
      try simp only [Act.put, List.getElem_toArray, List.getElem_cons_zero, List.getElem_cons_succ, List.setIfInBounds_toArray, List.set_cons_zero, List.set_cons_succ]
      refine wpAnyH_take (i := 8) (v := .agg #[.int .u8 k1, .int .i16 y1, .int .i16 n1]) rfl (by kernel_rfl) (by kernel_rfl) (by kernel_rfl) (fun _ _ _ h => h) (Or.inl ⟨by rfl, fun w' h => by go_simp⟩) (by assumption) ?_
      try simp only [Act.put, List.getElem_toArray, List.getElem_cons_zero, List.getElem_cons_succ, List.setIfInBounds_toArray, List.set_cons_zero, List.set_cons_succ]
      refine wpAnyH_take (i := 9) (v := .int .i64 mv) rfl (by kernel_rfl) (by kernel_rfl) (by kernel_rfl) (fun _ _ _ h => h) (Or.inl ⟨by rfl, fun w' h => by go_simp⟩) (by assumption) ?_
      try simp only [Act.put, List.getElem_toArray, List.getElem_cons_zero, List.getElem_cons_succ, List.setIfInBounds_toArray, List.set_cons_zero, List.set_cons_succ]
      refine wpAnyH_take (i := 10) (v := .int .i64 cd) rfl (by kernel_rfl) (by kernel_rfl) (by kernel_rfl) (fun _ _ _ h => h) (Or.inl ⟨by rfl, fun w' h => by go_simp⟩) (by assumption) ?_
      try simp only [Act.put, List.getElem_toArray, List.getElem_cons_zero, List.getElem_cons_succ, List.setIfInBounds_toArray, List.set_cons_zero, List.set_cons_succ]
      refine wpAnyH_ready (rs := [12]) (by kernel_rfl) (by simp) ?_
      refine AllReadyH.cons rfl (fun K hK => ?_) AllReadyH.nil
      refine if_wanted rfl ?_
      refine wp_assign0 (v := .slice A5 L.length c5) rfl rfl ?_
      refine hK.out _ _ hHeld (fun hHeld => ?_)
      clear hK K
      try simp only [Act.put, List.getElem_toArray, List.getElem_cons_zero, List.getElem_cons_succ, List.setIfInBounds_toArray, List.set_cons_zero, List.set_cons_succ]
      refine wpAnyH_ready (rs := [13]) (by kernel_rfl) (by simp) ?_
      refine AllReadyH.cons rfl (fun K hK => ?_) AllReadyH.nil
      refine if_wanted rfl ?_
      have d0 : x13c.cell? ⟨B, 0, none⟩ = some (.int .u8 0) := hKB.cell 0
      have f0 : x13c.frozen? ⟨B, 0, none⟩ = false := hKB.frozen 0
      have d1 : x13c.cell? ⟨B, 1, none⟩ = some (.int .i16 0) := hKB.cell 1
      have f1 : x13c.frozen? ⟨B, 1, none⟩ = false := hKB.frozen 1
      have d2 : x13c.cell? ⟨B, 2, none⟩ = some (.int .i16 0) := hKB.cell 2
      have f2 : x13c.frozen? ⟨B, 2, none⟩ = false := hKB.frozen 2
      go_simp
      clear d0 d1 d2 f0 f1 f2
      have hU : Below W0.heap.size W0 (((x13c.setCell ⟨B, 0, none⟩ (.int .u8 k1)).setCell ⟨B, 1, none⟩ (.int .i16 y1)).setCell ⟨B, 2, none⟩ (.int .i16 n1)) := ((hHeld.setCell (p := ⟨B, 0, none⟩) hWB _).setCell (p := ⟨B, 1, none⟩) hWB _).setCell (p := ⟨B, 2, none⟩) hWB _
      have hKU : Blk (((x13c.setCell ⟨B, 0, none⟩ (.int .u8 k1)).setCell ⟨B, 1, none⟩ (.int .i16 y1)).setCell ⟨B, 2, none⟩ (.int .i16 n1)) B 30 #[.int .u8 k1, .int .i16 y1, .int .i16 n1] := by have := ((hKB.set_ 0 (.int .u8 k1)).set_ 1 (.int .i16 y1)).set_ 2 (.int .i16 n1); simpa using this
      have hRU := RdS.store hV (show x13c.grownBy (((x13c.setCell ⟨B, 0, none⟩ (.int .u8 k1)).setCell ⟨B, 1, none⟩ (.int .i16 y1)).setCell ⟨B, 2, none⟩ (.int .i16 n1)) ((some ⟨B, 0, none⟩ : Option Addr).map (·.block)) from gk_set (gk_set (gk_set (gk_refl x13c (some B)) _) _) _)
      clear hHeld
      refine hK.out _ _ hU (fun hHeld => ?_)
      clear hK K
      try simp only [Act.put, List.getElem_toArray, List.getElem_cons_zero, List.getElem_cons_succ, List.setIfInBounds_toArray, List.set_cons_zero, List.set_cons_succ]
      refine wpAnyH_ready (rs := [14]) (by kernel_rfl) (by simp) ?_
      refine AllReadyH.cons rfl (fun K hK => ?_) AllReadyH.nil
      refine if_wanted rfl ?_
      refine wp_assign0 (v := .int .i64 mv) rfl rfl ?_
      refine hK.out _ _ hHeld (fun hHeld => ?_)
      clear hK K
      try simp only [Act.put, List.getElem_toArray, List.getElem_cons_zero, List.getElem_cons_succ, List.setIfInBounds_toArray, List.set_cons_zero, List.set_cons_succ]
      refine wpAnyH_ready (rs := [15]) (by kernel_rfl) (by simp) ?_
      refine AllReadyH.cons rfl (fun K hK => ?_) AllReadyH.nil
      refine if_wanted rfl ?_
      refine wp_assign0 (v := .int .i64 cd) rfl rfl ?_
      refine hK.out _ _ hHeld (fun hHeld => ?_)
      clear hK K
      try simp only [Act.put, List.getElem_toArray, List.getElem_cons_zero, List.getElem_cons_succ, List.setIfInBounds_toArray, List.set_cons_zero, List.set_cons_succ]
      refine wpAnyH_done (by kernel_rfl) ?_ _
      try simp only [Act.put, List.getElem_toArray, List.getElem_cons_zero, List.getElem_cons_succ, List.setIfInBounds_toArray, List.set_cons_zero, List.set_cons_succ]
      go_wp2_with fail
      go_meet
      exact ⟨A5, c5, B, rfl, rfl, rfl, rfl, hRU, hKU, hWB, hHeld⟩
  obtain ⟨AK0, cK0, BK0, rfl, rfl, rfl, rfl, hRU, hKU, hWB, hb⟩ := hcut
  obtain ⟨wcK0, hwc⟩ : ∃ u, u = wc := ⟨_, rfl⟩
  subst hwc
  have HB_1 : Hid (Below w.heap.size w wcK0) := HB_0.out.trans (hb.mono HB_0.out.size)
  have KX_1 : Hid (Blk wcK0 w.heap.size 38 #[.int .u8 k, .int .i16 y]) := KX_0.out.keep hb
  clear hb HB_0 KX_0
  have K0_1 := Lib.hid hKU
  have RV : Hid (RdN wcK0 wcK0.heap.size wcells AK0 L) := hRU
  have HV_1 : Hid (Below wcK0.heap.size wcK0 wcK0) := Below.refl _ _
  clear hRU hKU hWB
  go_wp2_with fail
  refine (toRack_any xss A c _ hm0 hxm0 (HR0.out.keep HB_1.out)).mono ?_
  rintro e w1 ⟨rfl, ⟨gsX, hR⟩, hb⟩
  have LE0 : Hid (w.heap.size ≤ wcK0.heap.size) := HB_1.out.size
  have LE1 : Hid (w.heap.size < wcK0.heap.size) := KX_1.out.lt
  have LE2 : Hid (BK0 < wcK0.heap.size) := K0_1.out.lt
  have LE3 : Hid (wcK0.heap.size ≤ wcK0.heap.size) := HV_1.out.size
  have HB_2 : Hid (Below w.heap.size w w1) := HB_1.out.trans (hb.mono HB_1.out.size)
  have KX_2 : Hid (Blk w1 w.heap.size 38 #[.int .u8 k, .int .i16 y]) := KX_1.out.keep hb
  have K0_2 : Hid (Blk w1 BK0 30 #[.int .u8 k1, .int .i16 y1, .int .i16 n1]) := K0_1.out.keep hb
  have HV_2 : Hid (Below wcK0.heap.size wcK0 w1) := HV_1.out.trans (hb.mono HV_1.out.size)
  clear hb HB_1 KX_1 K0_1 HV_1
  have X_2 : Hid (RsN w1 wcK0.heap.size 44 30 wcells xss gsX) := hR
  clear hR
  have d00 : w1.cell? ⟨w.heap.size, 0, none⟩ = some (.int .u8 k) := KX_2.out.cell 0
  have d01 : w1.cell? ⟨w.heap.size, 1, none⟩ = some (.int .i16 y) := KX_2.out.cell 1
  go_wp2_with fail
  refine (toBottle_any k y _).mono ?_
  rintro e w2 ⟨rfl, hb⟩
  clear d00 d01
  have HB_3 : Hid (Below w.heap.size w w2) := HB_2.out.trans (hb.mono HB_2.out.size)
  have KX_3 : Hid (Blk w2 w.heap.size 38 #[.int .u8 k, .int .i16 y]) := KX_2.out.keep hb
  have K0_3 : Hid (Blk w2 BK0 30 #[.int .u8 k1, .int .i16 y1, .int .i16 n1]) := K0_2.out.keep hb
  have HV_3 : Hid (Below wcK0.heap.size wcK0 w2) := HV_2.out.trans (hb.mono HV_2.out.size)
  have X_3 : Hid (RsN w2 wcK0.heap.size 44 30 wcells xss gsX) := X_2.out.keep hb
  clear hb HB_2 KX_2 K0_2 HV_2 X_2
  go_wp2_with fail
  refine (HI.out _ _ _ X_3.out.rd (HE.out.below HB_3.out (Nat.le_refl _))).mono ?_
  rintro e w3 ⟨Ag, cg, hsg, rfl, hN, hb⟩
  have HXS := Lib.hid (rk_src X_3.out).2.2.2.2.2
  have LE4 : Hid (w.heap.size ≤ w2.heap.size) := HB_3.out.size
  have LE5 : Hid (w.heap.size < w2.heap.size) := KX_3.out.lt
  have LE6 : Hid (BK0 < w2.heap.size) := K0_3.out.lt
  have LE7 : Hid (wcK0.heap.size ≤ w2.heap.size) := HV_3.out.size
  have LE8 : Hid (w2.heap.size ≤ w3.heap.size) := hb.size
  have HB_4 : Hid (Below w.heap.size w w3) := HB_3.out.trans (hb.mono HB_3.out.size)
  have KX_4 : Hid (Blk w3 w.heap.size 38 #[.int .u8 k, .int .i16 y]) := KX_3.out.keep hb
  have K0_4 : Hid (Blk w3 BK0 30 #[.int .u8 k1, .int .i16 y1, .int .i16 n1]) := K0_3.out.keep hb
  have HV_4 : Hid (Below wcK0.heap.size wcK0 w3) := HV_3.out.trans (hb.mono HV_3.out.size)
  have X_4 : Hid (RsN w3 wcK0.heap.size 44 30 wcells xss gsX) := X_3.out.keep hb
  clear hb HB_3 KX_3 K0_3 HV_3 X_3
  have HGS := Lib.hid (own_src hN).2.2.2.2.2
  have GN_4 := Lib.hid hN
  clear hN
  go_wp2_with fail
  obtain ⟨w4, hww4⟩ : ∃ v, w3.alloc (.cells #[.int .u8 k1, .int .i16 y1, .int .i16 n1] 30) = v := ⟨_, rfl⟩
  have hb : Below w3.heap.size w3 w4 := by rw [← hww4]; exact (Below.refl _ _).alloc (Nat.le_refl _) _
  have hK : Blk w4 w3.heap.size 30 #[.int .u8 k1, .int .i16 y1, .int .i16 n1] := by rw [← hww4]; exact Blk.new w3 _ _
  rw [hww4]
  clear hww4
  have HB_5 : Hid (Below w.heap.size w w4) := HB_4.out.trans (hb.mono HB_4.out.size)
  have KX_5 : Hid (Blk w4 w.heap.size 38 #[.int .u8 k, .int .i16 y]) := KX_4.out.keep hb
  have K0_5 : Hid (Blk w4 BK0 30 #[.int .u8 k1, .int .i16 y1, .int .i16 n1]) := K0_4.out.keep hb
  have HV_5 : Hid (Below wcK0.heap.size wcK0 w4) := HV_4.out.trans (hb.mono HV_4.out.size)
  have X_5 : Hid (RsN w4 wcK0.heap.size 44 30 wcells xss gsX) := X_4.out.keep hb
  have GN_5 : Hid (OwnN w4 w2.heap.size 44 30 3 wcells Ag cg hsg (L)) := GN_4.out.keep hb
  clear hb HB_4 KX_4 K0_4 HV_4 X_4 GN_4
  have K1_5 := Lib.hid hK
  clear hK
  go_wp2_with fail
  refine (eqRack_same L _ _ _ _ _ hLl HLx.out (GN_5.out.rd wcells_length) (RV.out.keep HV_5.out)).mono ?_
  rintro e w5 ⟨rfl, hb⟩
  have HB_6 : Hid (Below w.heap.size w w5) := HB_5.out.trans (hb.mono HB_5.out.size)
  have KX_6 : Hid (Blk w5 w.heap.size 38 #[.int .u8 k, .int .i16 y]) := KX_5.out.keep hb
  have K0_6 : Hid (Blk w5 BK0 30 #[.int .u8 k1, .int .i16 y1, .int .i16 n1]) := K0_5.out.keep hb
  have HV_6 : Hid (Below wcK0.heap.size wcK0 w5) := HV_5.out.trans (hb.mono HV_5.out.size)
  have X_6 : Hid (RsN w5 wcK0.heap.size 44 30 wcells xss gsX) := X_5.out.keep hb
  have GN_6 : Hid (OwnN w5 w2.heap.size 44 30 3 wcells Ag cg hsg (L)) := GN_5.out.keep hb
  have K1_6 : Hid (Blk w5 w3.heap.size 30 #[.int .u8 k1, .int .i16 y1, .int .i16 n1]) := K1_5.out.keep hb
  clear hb HB_5 KX_5 K0_5 HV_5 X_5 GN_5 K1_5
  have d00 : w5.cell? ⟨w3.heap.size, 0, none⟩ = some (.int .u8 k1) := K1_6.out.cell 0
  have d01 : w5.cell? ⟨w3.heap.size, 1, none⟩ = some (.int .i16 y1) := K1_6.out.cell 1
  have d02 : w5.cell? ⟨w3.heap.size, 2, none⟩ = some (.int .i16 n1) := K1_6.out.cell 2
  have d10 : w5.cell? ⟨BK0, 0, none⟩ = some (.int .u8 k1) := K0_6.out.cell 0
  have d11 : w5.cell? ⟨BK0, 1, none⟩ = some (.int .i16 y1) := K0_6.out.cell 1
  have d12 : w5.cell? ⟨BK0, 2, none⟩ = some (.int .i16 n1) := K0_6.out.cell 2
  go_wp2_with fail
  refine (eqStored_same ((k1, y1), n1) _).mono ?_
  rintro e w6 ⟨rfl, hb⟩
  clear d00 d01 d02 d10 d11 d12
  have HB_7 : Hid (Below w.heap.size w w6) := HB_6.out.trans (hb.mono HB_6.out.size)
  have KX_7 : Hid (Blk w6 w.heap.size 38 #[.int .u8 k, .int .i16 y]) := KX_6.out.keep hb
  have K0_7 : Hid (Blk w6 BK0 30 #[.int .u8 k1, .int .i16 y1, .int .i16 n1]) := K0_6.out.keep hb
  have HV_7 : Hid (Below wcK0.heap.size wcK0 w6) := HV_6.out.trans (hb.mono HV_6.out.size)
  have X_7 : Hid (RsN w6 wcK0.heap.size 44 30 wcells xss gsX) := X_6.out.keep hb
  have GN_7 : Hid (OwnN w6 w2.heap.size 44 30 3 wcells Ag cg hsg (L)) := GN_6.out.keep hb
  have K1_7 : Hid (Blk w6 w3.heap.size 30 #[.int .u8 k1, .int .i16 y1, .int .i16 n1]) := K1_6.out.keep hb
  clear hb HB_6 KX_6 K0_6 HV_6 X_6 GN_6 K1_6
  go_wp2_with fail
  refine (toRack_any xss A c _ hm0 hxm0 (HR0.out.keep HB_7.out)).mono ?_
  rintro e w7 ⟨rfl, ⟨gsZ, hR⟩, hb⟩
  have HB_8 : Hid (Below w.heap.size w w7) := HB_7.out.trans (hb.mono HB_7.out.size)
  have KX_8 : Hid (Blk w7 w.heap.size 38 #[.int .u8 k, .int .i16 y]) := KX_7.out.keep hb
  have K0_8 : Hid (Blk w7 BK0 30 #[.int .u8 k1, .int .i16 y1, .int .i16 n1]) := K0_7.out.keep hb
  have HV_8 : Hid (Below wcK0.heap.size wcK0 w7) := HV_7.out.trans (hb.mono HV_7.out.size)
  have X_8 : Hid (RsN w7 wcK0.heap.size 44 30 wcells xss gsX) := X_7.out.keep hb
  have GN_8 : Hid (OwnN w7 w2.heap.size 44 30 3 wcells Ag cg hsg (L)) := GN_7.out.keep hb
  have K1_8 : Hid (Blk w7 w3.heap.size 30 #[.int .u8 k1, .int .i16 y1, .int .i16 n1]) := K1_7.out.keep hb
  clear hb HB_7 KX_7 K0_7 HV_7 X_7 GN_7 K1_7
  have Z_8 : Hid (RsN w7 w6.heap.size 44 30 wcells xss gsZ) := hR
  clear hR
  go_wp2_with fail
  refine (eqRack_same xss _ _ _ _ _ hm0 hxm0 X_8.out.rd Z_8.out.rd).mono ?_
  rintro e w8 ⟨rfl, hb⟩
  clear Z_8
  have HB_9 : Hid (Below w.heap.size w w8) := HB_8.out.trans (hb.mono HB_8.out.size)
  have KX_9 : Hid (Blk w8 w.heap.size 38 #[.int .u8 k, .int .i16 y]) := KX_8.out.keep hb
  have K0_9 : Hid (Blk w8 BK0 30 #[.int .u8 k1, .int .i16 y1, .int .i16 n1]) := K0_8.out.keep hb
  have HV_9 : Hid (Below wcK0.heap.size wcK0 w8) := HV_8.out.trans (hb.mono HV_8.out.size)
  have X_9 : Hid (RsN w8 wcK0.heap.size 44 30 wcells xss gsX) := X_8.out.keep hb
  have GN_9 : Hid (OwnN w8 w2.heap.size 44 30 3 wcells Ag cg hsg (L)) := GN_8.out.keep hb
  have K1_9 : Hid (Blk w8 w3.heap.size 30 #[.int .u8 k1, .int .i16 y1, .int .i16 n1]) := K1_8.out.keep hb
  clear hb HB_8 KX_8 K0_8 HV_8 X_8 GN_8 K1_8
  obtain ⟨q1, q2, q3, q4, q5, q6⟩ := rk_src X_9.out
  clear X_9
  go_wp2_with fail
  refine (mkRk_any xss _ _ _ (1) _ (by omega) (by omega) hm0 q1 q2 q3 q4 q5).mono ?_
  rintro e w9 ⟨rfl, -, hO⟩
  have hS := HXS.out
  clear q1 q2 q3 q4 q5 q6 HXS
  have HB_10 : Hid (Below w.heap.size w w9) := hO.below HB_9.out HB_9.out.size (fun k e => by have lk := hS k e; have l0 := LE0.out; have l1 := LE1.out; have l2 := LE2.out; have l3 := LE3.out; have l4 := LE4.out; have l5 := LE5.out; have l6 := LE6.out; have l7 := LE7.out; have l8 := LE8.out; omega)
  have KX_10 : Hid (Blk w9 w.heap.size 38 #[.int .u8 k, .int .i16 y]) := hO.blk KX_9.out (fun e => by have lk := hS _ e; have l0 := LE0.out; have l1 := LE1.out; have l2 := LE2.out; have l3 := LE3.out; have l4 := LE4.out; have l5 := LE5.out; have l6 := LE6.out; have l7 := LE7.out; have l8 := LE8.out; omega)
  have K0_10 : Hid (Blk w9 BK0 30 #[.int .u8 k1, .int .i16 y1, .int .i16 n1]) := hO.blk K0_9.out (fun e => by have lk := hS _ e; have l0 := LE0.out; have l1 := LE1.out; have l2 := LE2.out; have l3 := LE3.out; have l4 := LE4.out; have l5 := LE5.out; have l6 := LE6.out; have l7 := LE7.out; have l8 := LE8.out; omega)
  have HV_10 : Hid (Below wcK0.heap.size wcK0 w9) := hO.below HV_9.out HV_9.out.size (fun k e => by have lk := hS k e; have l0 := LE0.out; have l1 := LE1.out; have l2 := LE2.out; have l3 := LE3.out; have l4 := LE4.out; have l5 := LE5.out; have l6 := LE6.out; have l7 := LE7.out; have l8 := LE8.out; omega)
  have GN_10 : Hid (OwnN w9 w2.heap.size 44 30 3 wcells Ag cg hsg (L)) := GN_9.out.only hO (fun k e => by have lk := hS k e; have l0 := LE0.out; have l1 := LE1.out; have l2 := LE2.out; have l3 := LE3.out; have l4 := LE4.out; have l5 := LE5.out; have l6 := LE6.out; have l7 := LE7.out; have l8 := LE8.out; omega)
  have K1_10 : Hid (Blk w9 w3.heap.size 30 #[.int .u8 k1, .int .i16 y1, .int .i16 n1]) := hO.blk K1_9.out (fun e => by have lk := hS _ e; have l0 := LE0.out; have l1 := LE1.out; have l2 := LE2.out; have l3 := LE3.out; have l4 := LE4.out; have l5 := LE5.out; have l6 := LE6.out; have l7 := LE7.out; have l8 := LE8.out; omega)
  clear hO hS HB_9 KX_9 K0_9 HV_9 GN_9 K1_9
  have hnn0 : (0 : Int) ≤ (sumL xss : Int) := Int.natCast_nonneg _
  have hkn : ¬ (1 + 3 * (sumL xss : Int) < 0) := by omega
  go_wp2_with fail
  refine (eqRack_same L _ _ _ _ _ hLl HLx.out (GN_10.out.rd wcells_length) (RV.out.keep HV_10.out)).mono ?_
  rintro e w10 ⟨rfl, hb⟩
  have HB_11 : Hid (Below w.heap.size w w10) := HB_10.out.trans (hb.mono HB_10.out.size)
  have KX_11 : Hid (Blk w10 w.heap.size 38 #[.int .u8 k, .int .i16 y]) := KX_10.out.keep hb
  have K0_11 : Hid (Blk w10 BK0 30 #[.int .u8 k1, .int .i16 y1, .int .i16 n1]) := K0_10.out.keep hb
  have HV_11 : Hid (Below wcK0.heap.size wcK0 w10) := HV_10.out.trans (hb.mono HV_10.out.size)
  have GN_11 : Hid (OwnN w10 w2.heap.size 44 30 3 wcells Ag cg hsg (L)) := GN_10.out.keep hb
  have K1_11 : Hid (Blk w10 w3.heap.size 30 #[.int .u8 k1, .int .i16 y1, .int .i16 n1]) := K1_10.out.keep hb
  clear hb HB_10 KX_10 K0_10 HV_10 GN_10 K1_10
  have d00 : w10.cell? ⟨w3.heap.size, 0, none⟩ = some (.int .u8 k1) := K1_11.out.cell 0
  have d01 : w10.cell? ⟨w3.heap.size, 1, none⟩ = some (.int .i16 y1) := K1_11.out.cell 1
  have d02 : w10.cell? ⟨w3.heap.size, 2, none⟩ = some (.int .i16 n1) := K1_11.out.cell 2
  have d10 : w10.cell? ⟨BK0, 0, none⟩ = some (.int .u8 k1) := K0_11.out.cell 0
  have d11 : w10.cell? ⟨BK0, 1, none⟩ = some (.int .i16 y1) := K0_11.out.cell 1
  have d12 : w10.cell? ⟨BK0, 2, none⟩ = some (.int .i16 n1) := K0_11.out.cell 2
  go_wp2_with fail
  refine (eqStored_same ((k1, y1), n1) _).mono ?_
  rintro e w11 ⟨rfl, hb⟩
  clear d00 d01 d02 d10 d11 d12
  have HB_12 : Hid (Below w.heap.size w w11) := HB_11.out.trans (hb.mono HB_11.out.size)
  have KX_12 : Hid (Blk w11 w.heap.size 38 #[.int .u8 k, .int .i16 y]) := KX_11.out.keep hb
  have K0_12 : Hid (Blk w11 BK0 30 #[.int .u8 k1, .int .i16 y1, .int .i16 n1]) := K0_11.out.keep hb
  have HV_12 : Hid (Below wcK0.heap.size wcK0 w11) := HV_11.out.trans (hb.mono HV_11.out.size)
  have GN_12 : Hid (OwnN w11 w2.heap.size 44 30 3 wcells Ag cg hsg (L)) := GN_11.out.keep hb
  have K1_12 : Hid (Blk w11 w3.heap.size 30 #[.int .u8 k1, .int .i16 y1, .int .i16 n1]) := K1_11.out.keep hb
  clear hb HB_11 KX_11 K0_11 HV_11 GN_11 K1_11
  clear K1_12
  obtain ⟨q1, q2, q3, q4, q5, q6⟩ := own_src GN_12.out
  clear GN_12
  go_wp2_with fail
  refine (mkRk_any L hsg Ag _ (1) _ (by omega) (by omega) hLl q1 q2 q3 q4 q5).mono ?_
  rintro e w12 ⟨rfl, hM, hO⟩
  have hS := HGS.out
  clear q1 q2 q3 q4 q5 q6 HGS
  have HB_13 : Hid (Below w.heap.size w w12) := hO.below HB_12.out HB_12.out.size (fun k e => by have lk := hS k e; have l0 := LE0.out; have l1 := LE1.out; have l2 := LE2.out; have l3 := LE3.out; have l4 := LE4.out; have l5 := LE5.out; have l6 := LE6.out; have l7 := LE7.out; have l8 := LE8.out; omega)
  have KX_13 : Hid (Blk w12 w.heap.size 38 #[.int .u8 k, .int .i16 y]) := hO.blk KX_12.out (fun e => by have lk := hS _ e; have l0 := LE0.out; have l1 := LE1.out; have l2 := LE2.out; have l3 := LE3.out; have l4 := LE4.out; have l5 := LE5.out; have l6 := LE6.out; have l7 := LE7.out; have l8 := LE8.out; omega)
  have K0_13 : Hid (Blk w12 BK0 30 #[.int .u8 k1, .int .i16 y1, .int .i16 n1]) := hO.blk K0_12.out (fun e => by have lk := hS _ e; have l0 := LE0.out; have l1 := LE1.out; have l2 := LE2.out; have l3 := LE3.out; have l4 := LE4.out; have l5 := LE5.out; have l6 := LE6.out; have l7 := LE7.out; have l8 := LE8.out; omega)
  have HV_13 : Hid (Below wcK0.heap.size wcK0 w12) := hO.below HV_12.out HV_12.out.size (fun k e => by have lk := hS k e; have l0 := LE0.out; have l1 := LE1.out; have l2 := LE2.out; have l3 := LE3.out; have l4 := LE4.out; have l5 := LE5.out; have l6 := LE6.out; have l7 := LE7.out; have l8 := LE8.out; omega)
  clear hO hS HB_12 KX_12 K0_12 HV_12
  have MG_13 : Hid (MkdN w12 Ag hsg (L) 1) := hM
  clear hM
  have hnn1 : (0 : Int) ≤ (sumL L : Int) := Int.natCast_nonneg _
  have hmn : ¬ (1 + 3 * (sumL L : Int) < 0) := by omega
  go_wp2_with fail
  refine (hdRk_any L hsg Ag _ (1) _ (by omega) (by omega) hLl MG_13.out).mono ?_
  rintro e w' ⟨rfl, rfl⟩
  go_upto_region 24 with fail
  go_cut [20, 21, 22, 23] from 115 to 126 (ToV L k1 y1 n1 mv cd w12)
  case first => as_aux_lemma =>
    refine wp_region_held_drew (S := fun w' => Below w12.heap.size w12 w') (by kernel_rfl) (Below.refl _ _).drew (fun hHeld => ?_)
    refine wpAnyH_take (i := 0) (v := .slice A xss.length c) rfl (by kernel_rfl) (by kernel_rfl) (by kernel_rfl) (fun _ _ _ h => h) (Or.inl ⟨by rfl, fun w' h => by go_simp⟩) (by assumption) ?_
    try simp only [Act.put, List.getElem_toArray, List.getElem_cons_zero, List.getElem_cons_succ, List.setIfInBounds_toArray, List.set_cons_zero, List.set_cons_succ]
    refine wpAnyH_take (i := 2) (v := .agg #[.int .u8 k, .int .i16 y]) rfl (by kernel_rfl) (by kernel_rfl) (by kernel_rfl) (fun _ _ _ h => h) (Or.inl ⟨by rfl, fun w' h => by have HM := (KX_13.out.below (h.mono (Nat.le_refl _)) KX_13.out.lt); have g0 : w'.cell? ⟨w.heap.size, 0, none⟩ = some (.int .u8 k) := HM.cell 0; have g1 : w'.cell? ⟨w.heap.size, 1, none⟩ = some (.int .i16 y) := HM.cell 1; go_simp⟩) (by assumption) ?_
    try simp only [Act.put, List.getElem_toArray, List.getElem_cons_zero, List.getElem_cons_succ, List.setIfInBounds_toArray, List.set_cons_zero, List.set_cons_succ]
    refine wpAnyH_take (i := 4) (v := .int .i64 s) rfl (by kernel_rfl) (by kernel_rfl) (by kernel_rfl) (fun _ _ _ h => h) (Or.inl ⟨by rfl, fun w' h => by go_simp⟩) (by assumption) ?_
    try simp only [Act.put, List.getElem_toArray, List.getElem_cons_zero, List.getElem_cons_succ, List.setIfInBounds_toArray, List.set_cons_zero, List.set_cons_succ]
    obtain ⟨D0, hD0⟩ : ∃ D0, w12.drew = D0 := ⟨_, rfl⟩
    rw [hD0] at hHeld ⊢
    clear hD0
    refine wpAnyH_ready (rs := [1, 11]) (by kernel_rfl) (by simp) ?_
    refine AllReadyH.cons rfl (fun K hK => ?_) (AllReadyH.cons rfl (fun K hK => ?_) AllReadyH.nil)
    · skip
      refine if_wanted rfl ?_
      go_simp
      refine (toRack_any xss A c _ hm0 hxm0 (HR0.out.keep (HB_13.out.trans (hHeld.mono HB_13.out.size)))).mono ?_
      rintro e x1c ⟨rfl, ⟨gs0, hR⟩, hb⟩
      have hH2 : Below w12.heap.size w12 x1c := hHeld.trans (hb.mono hHeld.size)
      clear hb hHeld
      dsimp only
      refine hK.out _ _ hH2 (fun hHeld => ?_)
      clear hK K hH2
      try simp only [Act.put, List.getElem_toArray, List.getElem_cons_zero, List.getElem_cons_succ, List.setIfInBounds_toArray, List.set_cons_zero, List.set_cons_succ]
      refine wpAnyH_ready (rs := [3, 11]) (by kernel_rfl) (by simp) ?_
      refine AllReadyH.cons rfl (fun K hK => ?_) (AllReadyH.cons rfl (fun K hK => ?_) AllReadyH.nil)
      · skip
        refine if_wanted rfl ?_
        go_simp
        refine (toBottle_any k y _).mono ?_
        rintro e x2c ⟨rfl, hb⟩
        have hH2 : Below w12.heap.size w12 x2c := hHeld.trans (hb.mono hHeld.size)
        have hR := hR.keep hb
        clear hb hHeld
        dsimp only
        refine hK.out _ _ hH2 (fun hHeld => ?_)
        clear hK K hH2
        try simp only [Act.put, List.getElem_toArray, List.getElem_cons_zero, List.getElem_cons_succ, List.setIfInBounds_toArray, List.set_cons_zero, List.set_cons_succ]
        refine wpAnyH_ready (rs := [5, 11]) (by kernel_rfl) (by simp) ?_
        refine AllReadyH.cons rfl (fun K hK => ?_) (AllReadyH.cons rfl (fun K hK => ?_) AllReadyH.nil)
        · skip
          refine if_wanted rfl ?_
          go_simp
          refine (HI.out _ _ _ hR.rd (HE.out.below (HB_13.out.trans (hHeld.mono HB_13.out.size)) (Nat.le_refl _))).mono ?_
          rintro e x3c ⟨A5, c5, hs5, rfl, hV, hb⟩
          have hH2 : Below w12.heap.size w12 x3c := hHeld.trans (hb.mono hHeld.size)
          have hV : RdO x3c x2c.heap.size A5 c5 L := .inr ⟨hs5, hV⟩
          clear hb hHeld hR
          dsimp only
          refine hK.out _ _ hH2 (fun hHeld => ?_)
          clear hK K hH2
          try simp only [Act.put, List.getElem_toArray, List.getElem_cons_zero, List.getElem_cons_succ, List.setIfInBounds_toArray, List.set_cons_zero, List.set_cons_succ]
          refine wpAnyH_take (i := 6) (v := .tuple #[.slice A5 L.length c5, .agg #[.int .u8 k1, .int .i16 y1, .int .i16 n1], .int .i64 mv, .int .i64 cd]) rfl (by kernel_rfl) (by kernel_rfl) (by kernel_rfl) (fun _ _ _ h => h) (Or.inl ⟨by rfl, fun w' h => by go_simp⟩) (by assumption) ?_
          try simp only [Act.put, List.getElem_toArray, List.getElem_cons_zero, List.getElem_cons_succ, List.setIfInBounds_toArray, List.set_cons_zero, List.set_cons_succ]
          refine wpAnyH_take (i := 7) (v := .slice A5 L.length c5) rfl (by kernel_rfl) (by kernel_rfl) (by kernel_rfl) (fun _ _ _ h => h) (Or.inl ⟨by rfl, fun w' h => by go_simp⟩) (by assumption) ?_
          try simp only [Act.put, List.getElem_toArray, List.getElem_cons_zero, List.getElem_cons_succ, List.setIfInBounds_toArray, List.set_cons_zero, List.set_cons_succ]
          refine wpAnyH_take (i := 8) (v := .agg #[.int .u8 k1, .int .i16 y1, .int .i16 n1]) rfl (by kernel_rfl) (by kernel_rfl) (by kernel_rfl) (fun _ _ _ h => h) (Or.inl ⟨by rfl, fun w' h => by go_simp⟩) (by assumption) ?_
          try simp only [Act.put, List.getElem_toArray, List.getElem_cons_zero, List.getElem_cons_succ, List.setIfInBounds_toArray, List.set_cons_zero, List.set_cons_succ]
          refine wpAnyH_take (i := 9) (v := .int .i64 mv) rfl (by kernel_rfl) (by kernel_rfl) (by kernel_rfl) (fun _ _ _ h => h) (Or.inl ⟨by rfl, fun w' h => by go_simp⟩) (by assumption) ?_
          try simp only [Act.put, List.getElem_toArray, List.getElem_cons_zero, List.getElem_cons_succ, List.setIfInBounds_toArray, List.set_cons_zero, List.set_cons_succ]
          refine wpAnyH_take (i := 10) (v := .int .i64 cd) rfl (by kernel_rfl) (by kernel_rfl) (by kernel_rfl) (fun _ _ _ h => h) (Or.inl ⟨by rfl, fun w' h => by go_simp⟩) (by assumption) ?_
          try simp only [Act.put, List.getElem_toArray, List.getElem_cons_zero, List.getElem_cons_succ, List.setIfInBounds_toArray, List.set_cons_zero, List.set_cons_succ]
          refine wpAnyH_ready (rs := [11]) (by kernel_rfl) (by simp) ?_
          refine AllReadyH.cons rfl (fun K hK => ?_) AllReadyH.nil
          refine if_wanted rfl ?_
          go_simp
          have hWB : w12.heap.size ≤ x3c.heap.size := hHeld.size
          have hH2 : Below w12.heap.size w12 (x3c.alloc (.cells #[.int .u8 0, .int .i16 0, .int .i16 0] 30)) := hHeld.alloc hHeld.size _
          have hKB : Blk (x3c.alloc (.cells #[.int .u8 0, .int .i16 0, .int .i16 0] 30)) x3c.heap.size 30 #[.int .u8 0, .int .i16 0, .int .i16 0] := Blk.new x3c _ _
          have hA1 : Below x3c.heap.size x3c (x3c.alloc (.cells #[.int .u8 0, .int .i16 0, .int .i16 0] 30)) := (Below.refl _ _).alloc (Nat.le_refl _) _
          have hV := RdS.new hV (.cells #[.int .u8 0, .int .i16 0, .int .i16 0] 30)
          obtain ⟨x4a, hu⟩ : ∃ u, x3c.alloc (.cells #[.int .u8 0, .int .i16 0, .int .i16 0] 30) = u := ⟨_, rfl⟩
          rw [hu] at hH2 hKB hV ⊢
          clear hu hA1
          obtain ⟨B, hB⟩ : ∃ B, x3c.heap.size = B := ⟨_, rfl⟩
          rw [hB] at hKB hWB hV ⊢
          clear hB hHeld
          try dsimp only
          refine hK.out _ _ hH2 (fun hHeld => ?_)
          clear hK K hH2
          try simp only [Act.put, List.getElem_toArray, List.getElem_cons_zero, List.getElem_cons_succ, List.setIfInBounds_toArray, List.set_cons_zero, List.set_cons_succ]
          refine wpAnyH_ready (rs := [12]) (by kernel_rfl) (by simp) ?_
          refine AllReadyH.cons rfl (fun K hK => ?_) AllReadyH.nil
          refine if_wanted rfl ?_
          refine wp_assign0 (v := .slice A5 L.length c5) rfl rfl ?_
          refine hK.out _ _ hHeld (fun hHeld => ?_)
          clear hK K
          try simp only [Act.put, List.getElem_toArray, List.getElem_cons_zero, List.getElem_cons_succ, List.setIfInBounds_toArray, List.set_cons_zero, List.set_cons_succ]
          refine wpAnyH_ready (rs := [13]) (by kernel_rfl) (by simp) ?_
          refine AllReadyH.cons rfl (fun K hK => ?_) AllReadyH.nil
          refine if_wanted rfl ?_
          have d0 : x4a.cell? ⟨B, 0, none⟩ = some (.int .u8 0) := hKB.cell 0
          have f0 : x4a.frozen? ⟨B, 0, none⟩ = false := hKB.frozen 0
          have d1 : x4a.cell? ⟨B, 1, none⟩ = some (.int .i16 0) := hKB.cell 1
          have f1 : x4a.frozen? ⟨B, 1, none⟩ = false := hKB.frozen 1
          have d2 : x4a.cell? ⟨B, 2, none⟩ = some (.int .i16 0) := hKB.cell 2
          have f2 : x4a.frozen? ⟨B, 2, none⟩ = false := hKB.frozen 2
          go_simp
          clear d0 d1 d2 f0 f1 f2
          have hU : Below w12.heap.size w12 (((x4a.setCell ⟨B, 0, none⟩ (.int .u8 k1)).setCell ⟨B, 1, none⟩ (.int .i16 y1)).setCell ⟨B, 2, none⟩ (.int .i16 n1)) := ((hHeld.setCell (p := ⟨B, 0, none⟩) hWB _).setCell (p := ⟨B, 1, none⟩) hWB _).setCell (p := ⟨B, 2, none⟩) hWB _
          have hKU : Blk (((x4a.setCell ⟨B, 0, none⟩ (.int .u8 k1)).setCell ⟨B, 1, none⟩ (.int .i16 y1)).setCell ⟨B, 2, none⟩ (.int .i16 n1)) B 30 #[.int .u8 k1, .int .i16 y1, .int .i16 n1] := by have := ((hKB.set_ 0 (.int .u8 k1)).set_ 1 (.int .i16 y1)).set_ 2 (.int .i16 n1); simpa using this
          have hRU := RdS.store hV (show x4a.grownBy (((x4a.setCell ⟨B, 0, none⟩ (.int .u8 k1)).setCell ⟨B, 1, none⟩ (.int .i16 y1)).setCell ⟨B, 2, none⟩ (.int .i16 n1)) ((some ⟨B, 0, none⟩ : Option Addr).map (·.block)) from gk_set (gk_set (gk_set (gk_refl x4a (some B)) _) _) _)
          clear hHeld
          refine hK.out _ _ hU (fun hHeld => ?_)
          clear hK K
          try simp only [Act.put, List.getElem_toArray, List.getElem_cons_zero, List.getElem_cons_succ, List.setIfInBounds_toArray, List.set_cons_zero, List.set_cons_succ]
          refine wpAnyH_ready (rs := [14]) (by kernel_rfl) (by simp) ?_
          refine AllReadyH.cons rfl (fun K hK => ?_) AllReadyH.nil
          refine if_wanted rfl ?_
          refine wp_assign0 (v := .int .i64 mv) rfl rfl ?_
          refine hK.out _ _ hHeld (fun hHeld => ?_)
          clear hK K
          try simp only [Act.put, List.getElem_toArray, List.getElem_cons_zero, List.getElem_cons_succ, List.setIfInBounds_toArray, List.set_cons_zero, List.set_cons_succ]
          refine wpAnyH_ready (rs := [15]) (by kernel_rfl) (by simp) ?_
          refine AllReadyH.cons rfl (fun K hK => ?_) AllReadyH.nil
          refine if_wanted rfl ?_
          refine wp_assign0 (v := .int .i64 cd) rfl rfl ?_
          refine hK.out _ _ hHeld (fun hHeld => ?_)
          clear hK K
          try simp only [Act.put, List.getElem_toArray, List.getElem_cons_zero, List.getElem_cons_succ, List.setIfInBounds_toArray, List.set_cons_zero, List.set_cons_succ]
          refine wpAnyH_done (by kernel_rfl) ?_ _
          try simp only [Act.put, List.getElem_toArray, List.getElem_cons_zero, List.getElem_cons_succ, List.setIfInBounds_toArray, List.set_cons_zero, List.set_cons_succ]
          go_wp2_with fail
          go_meet
          exact ⟨A5, c5, B, rfl, rfl, rfl, rfl, hRU, hKU, hWB, hHeld⟩
        · skip
          refine if_wanted rfl ?_
          go_simp
          have hWB : w12.heap.size ≤ x2c.heap.size := hHeld.size
          have hH2 : Below w12.heap.size w12 (x2c.alloc (.cells #[.int .u8 0, .int .i16 0, .int .i16 0] 30)) := hHeld.alloc hHeld.size _
          have hKB : Blk (x2c.alloc (.cells #[.int .u8 0, .int .i16 0, .int .i16 0] 30)) x2c.heap.size 30 #[.int .u8 0, .int .i16 0, .int .i16 0] := Blk.new x2c _ _
          have hA1 : Below x2c.heap.size x2c (x2c.alloc (.cells #[.int .u8 0, .int .i16 0, .int .i16 0] 30)) := (Below.refl _ _).alloc (Nat.le_refl _) _
          have hR := hR.keep hA1
          obtain ⟨x5a, hu⟩ : ∃ u, x2c.alloc (.cells #[.int .u8 0, .int .i16 0, .int .i16 0] 30) = u := ⟨_, rfl⟩
          rw [hu] at hH2 hKB hR ⊢
          clear hu hA1
          obtain ⟨B, hB⟩ : ∃ B, x2c.heap.size = B := ⟨_, rfl⟩
          rw [hB] at hKB hWB ⊢
          clear hB hHeld
          try dsimp only
          refine hK.out _ _ hH2 (fun hHeld => ?_)
          clear hK K hH2
          try simp only [Act.put, List.getElem_toArray, List.getElem_cons_zero, List.getElem_cons_succ, List.setIfInBounds_toArray, List.set_cons_zero, List.set_cons_succ]
          refine wpAnyH_ready (rs := [5]) (by kernel_rfl) (by simp) ?_
          refine AllReadyH.cons rfl (fun K hK => ?_) AllReadyH.nil
          refine if_wanted rfl ?_
          go_simp
          refine (HI.out _ _ _ hR.rd (HE.out.below (HB_13.out.trans (hHeld.mono HB_13.out.size)) (Nat.le_refl _))).mono ?_
          rintro e x6c ⟨A5, c5, hs5, rfl, hV, hb⟩
          have hH2 : Below w12.heap.size w12 x6c := hHeld.trans (hb.mono hHeld.size)
          have hV : RdO x6c x5a.heap.size A5 c5 L := .inr ⟨hs5, hV⟩
          have hV := RdS.low (B := B) hV hKB.lt
          have hKB := hKB.keep hb
          clear hb hHeld hR
          dsimp only
          refine hK.out _ _ hH2 (fun hHeld => ?_)
          clear hK K hH2
          try simp only [Act.put, List.getElem_toArray, List.getElem_cons_zero, List.getElem_cons_succ, List.setIfInBounds_toArray, List.set_cons_zero, List.set_cons_succ]
          refine wpAnyH_take (i := 6) (v := .tuple #[.slice A5 L.length c5, .agg #[.int .u8 k1, .int .i16 y1, .int .i16 n1], .int .i64 mv, .int .i64 cd]) rfl (by kernel_rfl) (by kernel_rfl) (by kernel_rfl) (fun _ _ _ h => h) (Or.inl ⟨by rfl, fun w' h => by go_simp⟩) (by assumption) ?_
          try simp only [Act.put, List.getElem_toArray, List.getElem_cons_zero, List.getElem_cons_succ, List.setIfInBounds_toArray, List.set_cons_zero, List.set_cons_succ]
          refine wpAnyH_take (i := 7) (v := .slice A5 L.length c5) rfl (by kernel_rfl) (by kernel_rfl) (by kernel_rfl) (fun _ _ _ h => h) (Or.inl ⟨by rfl, fun w' h => by go_simp⟩) (by assumption) ?_
          try simp only [Act.put, List.getElem_toArray, List.getElem_cons_zero, List.getElem_cons_succ, List.setIfInBounds_toArray, List.set_cons_zero, List.set_cons_succ]
          refine wpAnyH_take (i := 8) (v := .agg #[.int .u8 k1, .int .i16 y1, .int .i16 n1]) rfl (by kernel_rfl) (by kernel_rfl) (by kernel_rfl) (fun _ _ _ h => h) (Or.inl ⟨by rfl, fun w' h => by go_simp⟩) (by assumption) ?_
          try simp only [Act.put, List.getElem_toArray, List.getElem_cons_zero, List.getElem_cons_succ, List.setIfInBounds_toArray, List.set_cons_zero, List.set_cons_succ]
          refine wpAnyH_take (i := 9) (v := .int .i64 mv) rfl (by kernel_rfl) (by kernel_rfl) (by kernel_rfl) (fun _ _ _ h => h) (Or.inl ⟨by rfl, fun w' h => by go_simp⟩) (by assumption) ?_
          try simp only [Act.put, List.getElem_toArray, List.getElem_cons_zero, List.getElem_cons_succ, List.setIfInBounds_toArray, List.set_cons_zero, List.set_cons_succ]
          refine wpAnyH_take (i := 10) (v := .int .i64 cd) rfl (by kernel_rfl) (by kernel_rfl) (by kernel_rfl) (fun _ _ _ h => h) (Or.inl ⟨by rfl, fun w' h => by go_simp⟩) (by assumption) ?_
          try simp only [Act.put, List.getElem_toArray, List.getElem_cons_zero, List.getElem_cons_succ, List.setIfInBounds_toArray, List.set_cons_zero, List.set_cons_succ]
          refine wpAnyH_ready (rs := [12]) (by kernel_rfl) (by simp) ?_
          refine AllReadyH.cons rfl (fun K hK => ?_) AllReadyH.nil
          refine if_wanted rfl ?_
          refine wp_assign0 (v := .slice A5 L.length c5) rfl rfl ?_
          refine hK.out _ _ hHeld (fun hHeld => ?_)
          clear hK K
          try simp only [Act.put, List.getElem_toArray, List.getElem_cons_zero, List.getElem_cons_succ, List.setIfInBounds_toArray, List.set_cons_zero, List.set_cons_succ]
          refine wpAnyH_ready (rs := [13]) (by kernel_rfl) (by simp) ?_
          refine AllReadyH.cons rfl (fun K hK => ?_) AllReadyH.nil
          refine if_wanted rfl ?_
          have d0 : x6c.cell? ⟨B, 0, none⟩ = some (.int .u8 0) := hKB.cell 0
          have f0 : x6c.frozen? ⟨B, 0, none⟩ = false := hKB.frozen 0
          have d1 : x6c.cell? ⟨B, 1, none⟩ = some (.int .i16 0) := hKB.cell 1
          have f1 : x6c.frozen? ⟨B, 1, none⟩ = false := hKB.frozen 1
          have d2 : x6c.cell? ⟨B, 2, none⟩ = some (.int .i16 0) := hKB.cell 2
          have f2 : x6c.frozen? ⟨B, 2, none⟩ = false := hKB.frozen 2
          go_simp
          clear d0 d1 d2 f0 f1 f2
          have hU : Below w12.heap.size w12 (((x6c.setCell ⟨B, 0, none⟩ (.int .u8 k1)).setCell ⟨B, 1, none⟩ (.int .i16 y1)).setCell ⟨B, 2, none⟩ (.int .i16 n1)) := ((hHeld.setCell (p := ⟨B, 0, none⟩) hWB _).setCell (p := ⟨B, 1, none⟩) hWB _).setCell (p := ⟨B, 2, none⟩) hWB _
          have hKU : Blk (((x6c.setCell ⟨B, 0, none⟩ (.int .u8 k1)).setCell ⟨B, 1, none⟩ (.int .i16 y1)).setCell ⟨B, 2, none⟩ (.int .i16 n1)) B 30 #[.int .u8 k1, .int .i16 y1, .int .i16 n1] := by have := ((hKB.set_ 0 (.int .u8 k1)).set_ 1 (.int .i16 y1)).set_ 2 (.int .i16 n1); simpa using this
          have hRU := RdS.store hV (show x6c.grownBy (((x6c.setCell ⟨B, 0, none⟩ (.int .u8 k1)).setCell ⟨B, 1, none⟩ (.int .i16 y1)).setCell ⟨B, 2, none⟩ (.int .i16 n1)) ((some ⟨B, 0, none⟩ : Option Addr).map (·.block)) from gk_set (gk_set (gk_set (gk_refl x6c (some B)) _) _) _)
          clear hHeld
          refine hK.out _ _ hU (fun hHeld => ?_)
          clear hK K
          try simp only [Act.put, List.getElem_toArray, List.getElem_cons_zero, List.getElem_cons_succ, List.setIfInBounds_toArray, List.set_cons_zero, List.set_cons_succ]
          refine wpAnyH_ready (rs := [14]) (by kernel_rfl) (by simp) ?_
          refine AllReadyH.cons rfl (fun K hK => ?_) AllReadyH.nil
          refine if_wanted rfl ?_
          refine wp_assign0 (v := .int .i64 mv) rfl rfl ?_
          refine hK.out _ _ hHeld (fun hHeld => ?_)
          clear hK K
          try simp only [Act.put, List.getElem_toArray, List.getElem_cons_zero, List.getElem_cons_succ, List.setIfInBounds_toArray, List.set_cons_zero, List.set_cons_succ]
          refine wpAnyH_ready (rs := [15]) (by kernel_rfl) (by simp) ?_
          refine AllReadyH.cons rfl (fun K hK => ?_) AllReadyH.nil
          refine if_wanted rfl ?_
          refine wp_assign0 (v := .int .i64 cd) rfl rfl ?_
          refine hK.out _ _ hHeld (fun hHeld => ?_)
          clear hK K
          try simp only [Act.put, List.getElem_toArray, List.getElem_cons_zero, List.getElem_cons_succ, List.setIfInBounds_toArray, List.set_cons_zero, List.set_cons_succ]
          refine wpAnyH_done (by kernel_rfl) ?_ _
          try simp only [Act.put, List.getElem_toArray, List.getElem_cons_zero, List.getElem_cons_succ, List.setIfInBounds_toArray, List.set_cons_zero, List.set_cons_succ]
          go_wp2_with fail
          go_meet
          exact ⟨A5, c5, B, rfl, rfl, rfl, rfl, hRU, hKU, hWB, hHeld⟩
      · skip
        refine if_wanted rfl ?_
        go_simp
        have hWB : w12.heap.size ≤ x1c.heap.size := hHeld.size
        have hH2 : Below w12.heap.size w12 (x1c.alloc (.cells #[.int .u8 0, .int .i16 0, .int .i16 0] 30)) := hHeld.alloc hHeld.size _
        have hKB : Blk (x1c.alloc (.cells #[.int .u8 0, .int .i16 0, .int .i16 0] 30)) x1c.heap.size 30 #[.int .u8 0, .int .i16 0, .int .i16 0] := Blk.new x1c _ _
        have hA1 : Below x1c.heap.size x1c (x1c.alloc (.cells #[.int .u8 0, .int .i16 0, .int .i16 0] 30)) := (Below.refl _ _).alloc (Nat.le_refl _) _
        have hR := hR.keep hA1
        obtain ⟨x7a, hu⟩ : ∃ u, x1c.alloc (.cells #[.int .u8 0, .int .i16 0, .int .i16 0] 30) = u := ⟨_, rfl⟩
        rw [hu] at hH2 hKB hR ⊢
        clear hu hA1
        obtain ⟨B, hB⟩ : ∃ B, x1c.heap.size = B := ⟨_, rfl⟩
        rw [hB] at hKB hWB ⊢
        clear hB hHeld
        try dsimp only
        refine hK.out _ _ hH2 (fun hHeld => ?_)
        clear hK K hH2
        try simp only [Act.put, List.getElem_toArray, List.getElem_cons_zero, List.getElem_cons_succ, List.setIfInBounds_toArray, List.set_cons_zero, List.set_cons_succ]
        refine wpAnyH_ready (rs := [3]) (by kernel_rfl) (by simp) ?_
        refine AllReadyH.cons rfl (fun K hK => ?_) AllReadyH.nil
        refine if_wanted rfl ?_
        go_simp
        refine (toBottle_any k y _).mono ?_
        rintro e x8c ⟨rfl, hb⟩
        have hH2 : Below w12.heap.size w12 x8c := hHeld.trans (hb.mono hHeld.size)
        have hR := hR.keep hb
        have hKB := hKB.keep hb
        clear hb hHeld
        dsimp only
        refine hK.out _ _ hH2 (fun hHeld => ?_)
        clear hK K hH2
        try simp only [Act.put, List.getElem_toArray, List.getElem_cons_zero, List.getElem_cons_succ, List.setIfInBounds_toArray, List.set_cons_zero, List.set_cons_succ]
        refine wpAnyH_ready (rs := [5]) (by kernel_rfl) (by simp) ?_
        refine AllReadyH.cons rfl (fun K hK => ?_) AllReadyH.nil
        refine if_wanted rfl ?_
        go_simp
        refine (HI.out _ _ _ hR.rd (HE.out.below (HB_13.out.trans (hHeld.mono HB_13.out.size)) (Nat.le_refl _))).mono ?_
        rintro e x9c ⟨A5, c5, hs5, rfl, hV, hb⟩
        have hH2 : Below w12.heap.size w12 x9c := hHeld.trans (hb.mono hHeld.size)
        have hV : RdO x9c x8c.heap.size A5 c5 L := .inr ⟨hs5, hV⟩
        have hV := RdS.low (B := B) hV hKB.lt
        have hKB := hKB.keep hb
        clear hb hHeld hR
        dsimp only
        refine hK.out _ _ hH2 (fun hHeld => ?_)
        clear hK K hH2
        try simp only [Act.put, List.getElem_toArray, List.getElem_cons_zero, List.getElem_cons_succ, List.setIfInBounds_toArray, List.set_cons_zero, List.set_cons_succ]
        refine wpAnyH_take (i := 6) (v := .tuple #[.slice A5 L.length c5, .agg #[.int .u8 k1, .int .i16 y1, .int .i16 n1], .int .i64 mv, .int .i64 cd]) rfl (by kernel_rfl) (by kernel_rfl) (by kernel_rfl) (fun _ _ _ h => h) (Or.inl ⟨by rfl, fun w' h => by go_simp⟩) (by assumption) ?_
        try simp only [Act.put, List.getElem_toArray, List.getElem_cons_zero, List.getElem_cons_succ, List.setIfInBounds_toArray, List.set_cons_zero, List.set_cons_succ]
        refine wpAnyH_take (i := 7) (v := .slice A5 L.length c5) rfl (by kernel_rfl) (by kernel_rfl) (by kernel_rfl) (fun _ _ _ h => h) (Or.inl ⟨by rfl, fun w' h => by go_simp⟩) (by assumption) ?_
        try simp only [Act.put, List.getElem_toArray, List.getElem_cons_zero, List.getElem_cons_succ, List.setIfInBounds_toArray, List.set_cons_zero, List.set_cons_succ]
        refine wpAnyH_take (i := 8) (v := .agg #[.int .u8 k1, .int .i16 y1, .int .i16 n1]) rfl (by kernel_rfl) (by kernel_rfl) (by kernel_rfl) (fun _ _ _ h => h) (Or.inl ⟨by rfl, fun w' h => by go_simp⟩) (by assumption) ?_
        try simp only [Act.put, List.getElem_toArray, List.getElem_cons_zero, List.getElem_cons_succ, List.setIfInBounds_toArray, List.set_cons_zero, List.set_cons_succ]
        refine wpAnyH_take (i := 9) (v := .int .i64 mv) rfl (by kernel_rfl) (by kernel_rfl) (by kernel_rfl) (fun _ _ _ h => h) (Or.inl ⟨by rfl, fun w' h => by go_simp⟩) (by assumption) ?_
        try simp only [Act.put, List.getElem_toArray, List.getElem_cons_zero, List.getElem_cons_succ, List.setIfInBounds_toArray, List.set_cons_zero, List.set_cons_succ]
        refine wpAnyH_take (i := 10) (v := .int .i64 cd) rfl (by kernel_rfl) (by kernel_rfl) (by kernel_rfl) (fun _ _ _ h => h) (Or.inl ⟨by rfl, fun w' h => by go_simp⟩) (by assumption) ?_
        try simp only [Act.put, List.getElem_toArray, List.getElem_cons_zero, List.getElem_cons_succ, List.setIfInBounds_toArray, List.set_cons_zero, List.set_cons_succ]
        refine wpAnyH_ready (rs := [12]) (by kernel_rfl) (by simp) ?_
        refine AllReadyH.cons rfl (fun K hK => ?_) AllReadyH.nil
        refine if_wanted rfl ?_
        refine wp_assign0 (v := .slice A5 L.length c5) rfl rfl ?_
        refine hK.out _ _ hHeld (fun hHeld => ?_)
        clear hK K
        try simp only [Act.put, List.getElem_toArray, List.getElem_cons_zero, List.getElem_cons_succ, List.setIfInBounds_toArray, List.set_cons_zero, List.set_cons_succ]
        refine wpAnyH_ready (rs := [13]) (by kernel_rfl) (by simp) ?_
        refine AllReadyH.cons rfl (fun K hK => ?_) AllReadyH.nil
        refine if_wanted rfl ?_
        have d0 : x9c.cell? ⟨B, 0, none⟩ = some (.int .u8 0) := hKB.cell 0
        have f0 : x9c.frozen? ⟨B, 0, none⟩ = false := hKB.frozen 0
        have d1 : x9c.cell? ⟨B, 1, none⟩ = some (.int .i16 0) := hKB.cell 1
        have f1 : x9c.frozen? ⟨B, 1, none⟩ = false := hKB.frozen 1
        have d2 : x9c.cell? ⟨B, 2, none⟩ = some (.int .i16 0) := hKB.cell 2
        have f2 : x9c.frozen? ⟨B, 2, none⟩ = false := hKB.frozen 2
        go_simp
        clear d0 d1 d2 f0 f1 f2
        have hU : Below w12.heap.size w12 (((x9c.setCell ⟨B, 0, none⟩ (.int .u8 k1)).setCell ⟨B, 1, none⟩ (.int .i16 y1)).setCell ⟨B, 2, none⟩ (.int .i16 n1)) := ((hHeld.setCell (p := ⟨B, 0, none⟩) hWB _).setCell (p := ⟨B, 1, none⟩) hWB _).setCell (p := ⟨B, 2, none⟩) hWB _
        have hKU : Blk (((x9c.setCell ⟨B, 0, none⟩ (.int .u8 k1)).setCell ⟨B, 1, none⟩ (.int .i16 y1)).setCell ⟨B, 2, none⟩ (.int .i16 n1)) B 30 #[.int .u8 k1, .int .i16 y1, .int .i16 n1] := by have := ((hKB.set_ 0 (.int .u8 k1)).set_ 1 (.int .i16 y1)).set_ 2 (.int .i16 n1); simpa using this
        have hRU := RdS.store hV (show x9c.grownBy (((x9c.setCell ⟨B, 0, none⟩ (.int .u8 k1)).setCell ⟨B, 1, none⟩ (.int .i16 y1)).setCell ⟨B, 2, none⟩ (.int .i16 n1)) ((some ⟨B, 0, none⟩ : Option Addr).map (·.block)) from gk_set (gk_set (gk_set (gk_refl x9c (some B)) _) _) _)
        clear hHeld
        refine hK.out _ _ hU (fun hHeld => ?_)
        clear hK K
        try simp only [Act.put, List.getElem_toArray, List.getElem_cons_zero, List.getElem_cons_succ, List.setIfInBounds_toArray, List.set_cons_zero, List.set_cons_succ]
        refine wpAnyH_ready (rs := [14]) (by kernel_rfl) (by simp) ?_
        refine AllReadyH.cons rfl (fun K hK => ?_) AllReadyH.nil
        refine if_wanted rfl ?_
        refine wp_assign0 (v := .int .i64 mv) rfl rfl ?_
        refine hK.out _ _ hHeld (fun hHeld => ?_)
        clear hK K
        try simp only [Act.put, List.getElem_toArray, List.getElem_cons_zero, List.getElem_cons_succ, List.setIfInBounds_toArray, List.set_cons_zero, List.set_cons_succ]
        refine wpAnyH_ready (rs := [15]) (by kernel_rfl) (by simp) ?_
        refine AllReadyH.cons rfl (fun K hK => ?_) AllReadyH.nil
        refine if_wanted rfl ?_
        refine wp_assign0 (v := .int .i64 cd) rfl rfl ?_
        refine hK.out _ _ hHeld (fun hHeld => ?_)
        clear hK K
        try simp only [Act.put, List.getElem_toArray, List.getElem_cons_zero, List.getElem_cons_succ, List.setIfInBounds_toArray, List.set_cons_zero, List.set_cons_succ]
        refine wpAnyH_done (by kernel_rfl) ?_ _
        try simp only [Act.put, List.getElem_toArray, List.getElem_cons_zero, List.getElem_cons_succ, List.setIfInBounds_toArray, List.set_cons_zero, List.set_cons_succ]
        go_wp2_with fail
        go_meet
        exact ⟨A5, c5, B, rfl, rfl, rfl, rfl, hRU, hKU, hWB, hHeld⟩
    · skip
      refine if_wanted rfl ?_
      go_simp
      have hWB : w12.heap.size ≤ D0.heap.size := hHeld.size
      have hH2 : Below w12.heap.size w12 (D0.alloc (.cells #[.int .u8 0, .int .i16 0, .int .i16 0] 30)) := hHeld.alloc hHeld.size _
      have hKB : Blk (D0.alloc (.cells #[.int .u8 0, .int .i16 0, .int .i16 0] 30)) D0.heap.size 30 #[.int .u8 0, .int .i16 0, .int .i16 0] := Blk.new D0 _ _
      have hA1 : Below D0.heap.size D0 (D0.alloc (.cells #[.int .u8 0, .int .i16 0, .int .i16 0] 30)) := (Below.refl _ _).alloc (Nat.le_refl _) _
      obtain ⟨x10a, hu⟩ : ∃ u, D0.alloc (.cells #[.int .u8 0, .int .i16 0, .int .i16 0] 30) = u := ⟨_, rfl⟩
      rw [hu] at hH2 hKB ⊢
      clear hu hA1
      obtain ⟨B, hB⟩ : ∃ B, D0.heap.size = B := ⟨_, rfl⟩
      rw [hB] at hKB hWB ⊢
      clear hB hHeld
      try dsimp only
      refine hK.out _ _ hH2 (fun hHeld => ?_)
      clear hK K hH2
      try simp only [Act.put, List.getElem_toArray, List.getElem_cons_zero, List.getElem_cons_succ, List.setIfInBounds_toArray, List.set_cons_zero, List.set_cons_succ]
      refine wpAnyH_ready (rs := [1]) (by kernel_rfl) (by simp) ?_
      refine AllReadyH.cons rfl (fun K hK => ?_) AllReadyH.nil
      refine if_wanted rfl ?_
      go_simp
      refine (toRack_any xss A c _ hm0 hxm0 (HR0.out.keep (HB_13.out.trans (hHeld.mono HB_13.out.size)))).mono ?_
      rintro e x11c ⟨rfl, ⟨gs0, hR⟩, hb⟩
      have hH2 : Below w12.heap.size w12 x11c := hHeld.trans (hb.mono hHeld.size)
      have hKB := hKB.keep hb
      clear hb hHeld
      dsimp only
      refine hK.out _ _ hH2 (fun hHeld => ?_)
      clear hK K hH2
      try simp only [Act.put, List.getElem_toArray, List.getElem_cons_zero, List.getElem_cons_succ, List.setIfInBounds_toArray, List.set_cons_zero, List.set_cons_succ]
      refine wpAnyH_ready (rs := [3]) (by kernel_rfl) (by simp) ?_
      refine AllReadyH.cons rfl (fun K hK => ?_) AllReadyH.nil
      refine if_wanted rfl ?_
      go_simp
      refine (toBottle_any k y _).mono ?_
      rintro e x12c ⟨rfl, hb⟩
      have hH2 : Below w12.heap.size w12 x12c := hHeld.trans (hb.mono hHeld.size)
      have hR := hR.keep hb
      have hKB := hKB.keep hb
      clear hb hHeld
      dsimp only
      refine hK.out _ _ hH2 (fun hHeld => ?_)
      clear hK K hH2
      try simp only [Act.put, List.getElem_toArray, List.getElem_cons_zero, List.getElem_cons_succ, List.setIfInBounds_toArray, List.set_cons_zero, List.set_cons_succ]
      refine wpAnyH_ready (rs := [5]) (by kernel_rfl) (by simp) ?_
      refine AllReadyH.cons rfl (fun K hK => ?_) AllReadyH.nil
      refine if_wanted rfl ?_
      go_simp
      refine (HI.out _ _ _ hR.rd (HE.out.below (HB_13.out.trans (hHeld.mono HB_13.out.size)) (Nat.le_refl _))).mono ?_
      rintro e x13c ⟨A5, c5, hs5, rfl, hV, hb⟩
      have hH2 : Below w12.heap.size w12 x13c := hHeld.trans (hb.mono hHeld.size)
      have hV : RdO x13c x12c.heap.size A5 c5 L := .inr ⟨hs5, hV⟩
      have hV := RdS.low (B := B) hV hKB.lt
      have hKB := hKB.keep hb
      clear hb hHeld hR
      dsimp only
      refine hK.out _ _ hH2 (fun hHeld => ?_)
      clear hK K hH2
      try simp only [Act.put, List.getElem_toArray, List.getElem_cons_zero, List.getElem_cons_succ, List.setIfInBounds_toArray, List.set_cons_zero, List.set_cons_succ]
      refine wpAnyH_take (i := 6) (v := .tuple #[.slice A5 L.length c5, .agg #[.int .u8 k1, .int .i16 y1, .int .i16 n1], .int .i64 mv, .int .i64 cd]) rfl (by kernel_rfl) (by kernel_rfl) (by kernel_rfl) (fun _ _ _ h => h) (Or.inl ⟨by rfl, fun w' h => by go_simp⟩) (by assumption) ?_
      try simp only [Act.put, List.getElem_toArray, List.getElem_cons_zero, List.getElem_cons_succ, List.setIfInBounds_toArray, List.set_cons_zero, List.set_cons_succ]
      refine wpAnyH_take (i := 7) (v := .slice A5 L.length c5) rfl (by kernel_rfl) (by kernel_rfl) (by kernel_rfl) (fun _ _ _ h => h) (Or.inl ⟨by rfl, fun w' h => by go_simp⟩) (by assumption) ?_
      try simp only [Act.put, List.getElem_toArray, List.getElem_cons_zero, List.getElem_cons_succ, List.setIfInBounds_toArray, List.set_cons_zero, List.set_cons_succ]
      refine wpAnyH_take (i := 8) (v := .agg #[.int .u8 k1, .int .i16 y1, .int .i16 n1]) rfl (by kernel_rfl) (by kernel_rfl) (by kernel_rfl) (fun _ _ _ h => h) (Or.inl ⟨by rfl, fun w' h => by go_simp⟩) (by assumption) ?_
      try simp only [Act.put, List.getElem_toArray, List.getElem_cons_zero, List.getElem_cons_succ, List.setIfInBounds_toArray, List.set_cons_zero, List.set_cons_succ]
      refine wpAnyH_take (i := 9) (v := .int .i64 mv) rfl (by kernel_rfl) (by kernel_rfl) (by kernel_rfl) (fun _ _ _ h => h) (Or.inl ⟨by rfl, fun w' h => by go_simp⟩) (by assumption) ?_
      try simp only [Act.put, List.getElem_toArray, List.getElem_cons_zero, List.getElem_cons_succ, List.setIfInBounds_toArray, List.set_cons_zero, List.set_cons_succ]
      refine wpAnyH_take (i := 10) (v := .int .i64 cd) rfl (by kernel_rfl) (by kernel_rfl) (by kernel_rfl) (fun _ _ _ h => h) (Or.inl ⟨by rfl, fun w' h => by go_simp⟩) (by assumption) ?_
      try simp only [Act.put, List.getElem_toArray, List.getElem_cons_zero, List.getElem_cons_succ, List.setIfInBounds_toArray, List.set_cons_zero, List.set_cons_succ]
      refine wpAnyH_ready (rs := [12]) (by kernel_rfl) (by simp) ?_
      refine AllReadyH.cons rfl (fun K hK => ?_) AllReadyH.nil
      refine if_wanted rfl ?_
      refine wp_assign0 (v := .slice A5 L.length c5) rfl rfl ?_
      refine hK.out _ _ hHeld (fun hHeld => ?_)
      clear hK K
      try simp only [Act.put, List.getElem_toArray, List.getElem_cons_zero, List.getElem_cons_succ, List.setIfInBounds_toArray, List.set_cons_zero, List.set_cons_succ]
      refine wpAnyH_ready (rs := [13]) (by kernel_rfl) (by simp) ?_
      refine AllReadyH.cons rfl (fun K hK => ?_) AllReadyH.nil
      refine if_wanted rfl ?_
      have d0 : x13c.cell? ⟨B, 0, none⟩ = some (.int .u8 0) := hKB.cell 0
      have f0 : x13c.frozen? ⟨B, 0, none⟩ = false := hKB.frozen 0
      have d1 : x13c.cell? ⟨B, 1, none⟩ = some (.int .i16 0) := hKB.cell 1
      have f1 : x13c.frozen? ⟨B, 1, none⟩ = false := hKB.frozen 1
      have d2 : x13c.cell? ⟨B, 2, none⟩ = some (.int .i16 0) := hKB.cell 2
      have f2 : x13c.frozen? ⟨B, 2, none⟩ = false := hKB.frozen 2
      go_simp
      clear d0 d1 d2 f0 f1 f2
      have hU : Below w12.heap.size w12 (((x13c.setCell ⟨B, 0, none⟩ (.int .u8 k1)).setCell ⟨B, 1, none⟩ (.int .i16 y1)).setCell ⟨B, 2, none⟩ (.int .i16 n1)) := ((hHeld.setCell (p := ⟨B, 0, none⟩) hWB _).setCell (p := ⟨B, 1, none⟩) hWB _).setCell (p := ⟨B, 2, none⟩) hWB _
      have hKU : Blk (((x13c.setCell ⟨B, 0, none⟩ (.int .u8 k1)).setCell ⟨B, 1, none⟩ (.int .i16 y1)).setCell ⟨B, 2, none⟩ (.int .i16 n1)) B 30 #[.int .u8 k1, .int .i16 y1, .int .i16 n1] := by have := ((hKB.set_ 0 (.int .u8 k1)).set_ 1 (.int .i16 y1)).set_ 2 (.int .i16 n1); simpa using this
      have hRU := RdS.store hV (show x13c.grownBy (((x13c.setCell ⟨B, 0, none⟩ (.int .u8 k1)).setCell ⟨B, 1, none⟩ (.int .i16 y1)).setCell ⟨B, 2, none⟩ (.int .i16 n1)) ((some ⟨B, 0, none⟩ : Option Addr).map (·.block)) from gk_set (gk_set (gk_set (gk_refl x13c (some B)) _) _) _)
      clear hHeld
      refine hK.out _ _ hU (fun hHeld => ?_)
      clear hK K
      try simp only [Act.put, List.getElem_toArray, List.getElem_cons_zero, List.getElem_cons_succ, List.setIfInBounds_toArray, List.set_cons_zero, List.set_cons_succ]
      refine wpAnyH_ready (rs := [14]) (by kernel_rfl) (by simp) ?_
      refine AllReadyH.cons rfl (fun K hK => ?_) AllReadyH.nil
      refine if_wanted rfl ?_
      refine wp_assign0 (v := .int .i64 mv) rfl rfl ?_
      refine hK.out _ _ hHeld (fun hHeld => ?_)
      clear hK K
      try simp only [Act.put, List.getElem_toArray, List.getElem_cons_zero, List.getElem_cons_succ, List.setIfInBounds_toArray, List.set_cons_zero, List.set_cons_succ]
      refine wpAnyH_ready (rs := [15]) (by kernel_rfl) (by simp) ?_
      refine AllReadyH.cons rfl (fun K hK => ?_) AllReadyH.nil
      refine if_wanted rfl ?_
      refine wp_assign0 (v := .int .i64 cd) rfl rfl ?_
      refine hK.out _ _ hHeld (fun hHeld => ?_)
      clear hK K
      try simp only [Act.put, List.getElem_toArray, List.getElem_cons_zero, List.getElem_cons_succ, List.setIfInBounds_toArray, List.set_cons_zero, List.set_cons_succ]
      refine wpAnyH_done (by kernel_rfl) ?_ _
      try simp only [Act.put, List.getElem_toArray, List.getElem_cons_zero, List.getElem_cons_succ, List.setIfInBounds_toArray, List.set_cons_zero, List.set_cons_succ]
      go_wp2_with fail
      go_meet
      exact ⟨A5, c5, B, rfl, rfl, rfl, rfl, hRU, hKU, hWB, hHeld⟩
  obtain ⟨AK2, cK2, BK2, rfl, rfl, rfl, rfl, hRU, hKU, hWB, hb⟩ := hcut
  obtain ⟨wcK2, hwc⟩ : ∃ u, u = wc := ⟨_, rfl⟩
  subst hwc
  have HB_14 : Hid (Below w.heap.size w wcK2) := HB_13.out.trans (hb.mono HB_13.out.size)
  have KX_14 : Hid (Blk wcK2 w.heap.size 38 #[.int .u8 k, .int .i16 y]) := KX_13.out.keep hb
  have K0_14 : Hid (Blk wcK2 BK0 30 #[.int .u8 k1, .int .i16 y1, .int .i16 n1]) := K0_13.out.keep hb
  have HV_14 : Hid (Below wcK0.heap.size wcK0 wcK2) := HV_13.out.trans (hb.mono HV_13.out.size)
  have MG_14 : Hid (MkdN wcK2 Ag hsg (L) 1) := MG_13.out.below hb
  clear hb HB_13 KX_13 K0_13 HV_13 MG_13
  have K2_14 := Lib.hid hKU
  have RV2 : Hid (RdN wcK2 wcK2.heap.size wcells AK2 L) := hRU
  have HV2_14 : Hid (Below wcK2.heap.size wcK2 wcK2) := Below.refl _ _
  clear hRU hKU hWB
  go_wp2_with fail
  refine (eqRack_same L _ _ _ _ _ hLl HLx.out (RV2.out.keep HV2_14.out) (RV.out.keep HV_14.out)).mono ?_
  rintro e w13 ⟨rfl, hb⟩
  have HB_15 : Hid (Below w.heap.size w w13) := HB_14.out.trans (hb.mono HB_14.out.size)
  have KX_15 : Hid (Blk w13 w.heap.size 38 #[.int .u8 k, .int .i16 y]) := KX_14.out.keep hb
  have K0_15 : Hid (Blk w13 BK0 30 #[.int .u8 k1, .int .i16 y1, .int .i16 n1]) := K0_14.out.keep hb
  have HV_15 : Hid (Below wcK0.heap.size wcK0 w13) := HV_14.out.trans (hb.mono HV_14.out.size)
  have MG_15 : Hid (MkdN w13 Ag hsg (L) 1) := MG_14.out.below hb
  have K2_15 : Hid (Blk w13 BK2 30 #[.int .u8 k1, .int .i16 y1, .int .i16 n1]) := K2_14.out.keep hb
  have HV2_15 : Hid (Below wcK2.heap.size wcK2 w13) := HV2_14.out.trans (hb.mono HV2_14.out.size)
  clear hb HB_14 KX_14 K0_14 HV_14 MG_14 K2_14 HV2_14
  have d00 : w13.cell? ⟨BK2, 0, none⟩ = some (.int .u8 k1) := K2_15.out.cell 0
  have d01 : w13.cell? ⟨BK2, 1, none⟩ = some (.int .i16 y1) := K2_15.out.cell 1
  have d02 : w13.cell? ⟨BK2, 2, none⟩ = some (.int .i16 n1) := K2_15.out.cell 2
  have d10 : w13.cell? ⟨BK0, 0, none⟩ = some (.int .u8 k1) := K0_15.out.cell 0
  have d11 : w13.cell? ⟨BK0, 1, none⟩ = some (.int .i16 y1) := K0_15.out.cell 1
  have d12 : w13.cell? ⟨BK0, 2, none⟩ = some (.int .i16 n1) := K0_15.out.cell 2
  go_wp2_with fail
  refine (eqStored_same ((k1, y1), n1) _).mono ?_
  rintro e w14 ⟨rfl, hb⟩
  clear d00 d01 d02 d10 d11 d12
  have HB_16 : Hid (Below w.heap.size w w14) := HB_15.out.trans (hb.mono HB_15.out.size)
  have KX_16 : Hid (Blk w14 w.heap.size 38 #[.int .u8 k, .int .i16 y]) := KX_15.out.keep hb
  have K0_16 : Hid (Blk w14 BK0 30 #[.int .u8 k1, .int .i16 y1, .int .i16 n1]) := K0_15.out.keep hb
  have HV_16 : Hid (Below wcK0.heap.size wcK0 w14) := HV_15.out.trans (hb.mono HV_15.out.size)
  have MG_16 : Hid (MkdN w14 Ag hsg (L) 1) := MG_15.out.below hb
  have K2_16 : Hid (Blk w14 BK2 30 #[.int .u8 k1, .int .i16 y1, .int .i16 n1]) := K2_15.out.keep hb
  have HV2_16 : Hid (Below wcK2.heap.size wcK2 w14) := HV2_15.out.trans (hb.mono HV2_15.out.size)
  clear hb HB_15 KX_15 K0_15 HV_15 MG_15 K2_15 HV2_15
  go_wp2_with fail
  refine (hdRk_any L hsg Ag _ (1) _ (by omega) (by omega) hLl MG_16.out).mono ?_
  rintro e w' ⟨rfl, rfl⟩
  go_wp2
  go_ret
  exact ⟨rfl, HB_16.out⟩
end Go.Proofs.YtmfdgpinohbckaaDoor
