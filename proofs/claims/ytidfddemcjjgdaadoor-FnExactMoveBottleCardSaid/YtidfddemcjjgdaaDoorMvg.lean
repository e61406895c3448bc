/-
  FnExactMoveBottle: for every crate and every swap the law returns true, and its arguments read as before. No condition but that the sentinel errors hold what the program's text lays (tied).
-/
import Derived.Test.YtidfddemcjjgdaaDoorCards
import Derived.Test.YtidfddemcjjgdaaDoorTie
import Derived.Test.YtidfddemcjjgdaaDoorG
import Derived.Test.YtidfddemcjjgdaaDoorR
import Derived.Test.YtidfddemcjjgdaaDoorMt
import Derived.SevenTiedAt
namespace Go.Proofs.YtidfddemcjjgdaaDoor
open Go.ChangeShapes Go.WideShapes Go.ChangeAt Go.RowKit Go.Deep

set_option maxRecDepth 100000 in
set_option maxHeartbeats 16000000 in
theorem mbLaw_gen (bs : List Bot) (hwf : WfC bs) (x y : Int) (hs : wfS (x, y)) (X : List Bot) (hX : WfC X) (c : Int)
    (hS : ∀ w, Calls Tryd.prog 32 #[.agg (ccells bs).toArray, .agg #[.int .i8 x, .int .i8 y]] w fun e w' => e = .returned (.tuple #[.agg (ccells X).toArray, .int .i64 c]) ∧ Below w.heap.size w w')
    (hI : ∀ ad w, EW 7 w ad → Calls Tryd.prog 33 #[.agg (ccells bs).toArray, .agg #[.int .i8 x, .int .i8 y]] w fun e w' => e = .returned (.tuple #[.agg (ccells X).toArray, .int .i64 c]) ∧ Below w.heap.size w w')
    (ad : Nat → Addr) (w : World) (hE : EW 7 w ad) : Calls Tryd.prog 7 #[.agg (ccells bs).toArray, .agg #[.int .i8 x, .int .i8 y]] w (Good w) := by
  have HW := Lib.hid hwf
  have HX := Lib.hid hX
  have HE := Lib.hid hE
  have HS := Lib.hid hS
  have HI := Lib.hid hI
  clear hwf hX hE hS hI hs
  have h1 : CBlk ((w.alloc (.cells (ccells bs).toArray 25)).alloc (.cells #[.int .i8 x, .int .i8 y] 28)) w.heap.size 25 bs := (CBlk.new w 25 bs).alloc _
  have h2 : Blk ((w.alloc (.cells (ccells bs).toArray 25)).alloc (.cells #[.int .i8 x, .int .i8 y] 28)) (w.heap.size + 1) 28 #[.int .i8 x, .int .i8 y] := Blk.new' (by simp) rfl
  have h3 : Below w.heap.size w ((w.alloc (.cells (ccells bs).toArray 25)).alloc (.cells #[.int .i8 x, .int .i8 y] 28)) := (by repeat (first | exact Below.refl _ _ | refine Below.drew ?_ | refine Below.alloc ?_ (by simp <;> omega) _ | refine Below.setCell ?_ (by simp <;> omega) _))
  go_enter Tryd.func7, Tryd.ntmps7
  go_wp2_with fail
  obtain ⟨W0, hW0⟩ : ∃ W0, (w.alloc (.cells (ccells bs).toArray 25)).alloc (.cells #[.int .i8 x, .int .i8 y] 28) = W0 := ⟨_, rfl⟩
  rw [hW0] at h1 h2 h3 ⊢
  have G1 := Lib.hid h1
  have G2 := Lib.hid h2
  have G3 := Lib.hid h3
  clear h1 h2 h3 hW0
  refine Code.wp_mono (Q := fun e a' w' => ∃ B1, e = .normal ∧ a' = { tmps := #[.agg (ccells bs).toArray, .agg #[.int .i8 x, .int .i8 y], .pointer (some ⟨w.heap.size, 0, none⟩), .pointer (some ⟨w.heap.size + 1, 0, none⟩), .bool false, .pointer (some ⟨B1, 0, none⟩), .int .i64 c, undef, undef, .tuple #[.agg (ccells X).toArray, .int .i64 c], .agg (ccells bs).toArray, .agg (ccells bs).toArray, .agg #[.int .i8 x, .int .i8 y], .agg #[.int .i8 x, .int .i8 y], .tuple #[.agg (ccells X).toArray, .int .i64 c], .agg (ccells X).toArray, .int .i64 c, undef, undef, undef, undef, undef, undef, undef, undef, undef, undef, undef, undef, undef, undef, undef, undef, undef], defers := [] } ∧ CBlk w' B1 31 X ∧ Below W0.heap.size W0 w') ?_ ?_
  rotate_left
  · skip
    refine wp_region_held_drew (S := fun w' => Below W0.heap.size W0 w') (by kernel_rfl) (Below.refl _ _).drew (fun hHeld => ?_)
    refine' wpAnyH_take (i := 0) (v := _) rfl (by kernel_rfl) (by kernel_rfl) (by kernel_rfl) (fun _ _ _ ⟨_, h, _⟩ => nomatch h) (yieldsIf_load_mid (by rfl) 25 (.tmp 2) rfl w.heap.size 0 rfl (ccells bs) _ (fun w h => CBlk.range (G1.out.below h G1.out.lt)) Tryd.underlying25 rfl (size_of_crate Tryd.sizeLc _ HW.out.1)) (by assumption) ?_
    try simp only [Act.put, List.getElem_toArray, List.getElem_cons_zero, List.getElem_cons_succ, List.setIfInBounds_toArray, List.set_cons_zero, List.set_cons_succ]
    refine wpAnyH_take (i := 2) (v := .agg #[.int .i8 x, .int .i8 y]) rfl (by kernel_rfl) (by kernel_rfl) (by kernel_rfl) (fun _ _ _ ⟨_, h, _⟩ => nomatch h) (Or.inl ⟨by rfl, fun w' h => by have e3 : w'.cell? ⟨w.heap.size + 1, 0, none⟩ = some (.int .i8 x) := (G2.out.below h G2.out.lt).cell 0; have e4 : w'.cell? ⟨w.heap.size + 1, 1, none⟩ = some (.int .i8 y) := (G2.out.below h G2.out.lt).cell 1; go_simp⟩) (by assumption) ?_
    try simp only [Act.put, List.getElem_toArray, List.getElem_cons_zero, List.getElem_cons_succ, List.setIfInBounds_toArray, List.set_cons_zero, List.set_cons_succ]
    obtain ⟨D0, hD0⟩ : ∃ D0, W0.drew = D0 := ⟨_, rfl⟩
    rw [hD0] at hHeld ⊢
    clear hD0
    refine wpAnyH_ready (rs := [1, 8]) (by kernel_rfl) (by simp) ?_
    refine AllReadyH.cons rfl (fun K hK => ?_) ?_
    · skip
      refine if_wanted rfl ?_
      go_simp
      refine (toCrate_any bs HW.out.1 _).mono ?_
      rintro e x1 ⟨rfl, hb⟩
      have hH2 : Below W0.heap.size W0 x1 := hHeld.trans (hb.mono hHeld.size)
      clear hb hHeld
      dsimp only
      refine hK.out _ _ hH2 (fun hHeld => ?_)
      clear hK K hH2
      try simp only [Act.put, List.getElem_toArray, List.getElem_cons_zero, List.getElem_cons_succ, List.setIfInBounds_toArray, List.set_cons_zero, List.set_cons_succ]
      refine wpAnyH_ready (rs := [3, 8]) (by kernel_rfl) (by simp) ?_
      refine AllReadyH.cons rfl (fun K hK => ?_) ?_
      · skip
        refine if_wanted rfl ?_
        go_simp
        refine (toSwap_any (x, y) _).mono ?_
        rintro e x2 ⟨rfl, hb⟩
        have hH2 : Below W0.heap.size W0 x2 := hHeld.trans (hb.mono hHeld.size)
        clear hb hHeld
        dsimp only
        refine hK.out _ _ hH2 (fun hHeld => ?_)
        clear hK K hH2
        try simp only [Act.put, List.getElem_toArray, List.getElem_cons_zero, List.getElem_cons_succ, List.setIfInBounds_toArray, List.set_cons_zero, List.set_cons_succ]
        refine wpAnyH_ready (rs := [4, 8]) (by kernel_rfl) (by simp) ?_
        refine AllReadyH.cons rfl (fun K hK => ?_) ?_
        · skip
          refine if_wanted rfl ?_
          go_simp
          refine (HS.out _).mono ?_
          rintro e x3 ⟨rfl, hb⟩
          have hH2 : Below W0.heap.size W0 x3 := hHeld.trans (hb.mono hHeld.size)
          clear hb hHeld
          dsimp only
          refine hK.out _ _ hH2 (fun hHeld => ?_)
          clear hK K hH2
          try simp only [Act.put, List.getElem_toArray, List.getElem_cons_zero, List.getElem_cons_succ, List.setIfInBounds_toArray, List.set_cons_zero, List.set_cons_succ]
          refine wpAnyH_take (i := 5) (v := .tuple #[.agg (ccells X).toArray, .int .i64 c]) rfl (by kernel_rfl) (by kernel_rfl) (by kernel_rfl) (fun _ _ _ ⟨_, h, _⟩ => nomatch h) (Or.inl ⟨by rfl, fun w' h => by go_simp⟩) (by assumption) ?_
          try simp only [Act.put, List.getElem_toArray, List.getElem_cons_zero, List.getElem_cons_succ, List.setIfInBounds_toArray, List.set_cons_zero, List.set_cons_succ]
          refine wpAnyH_take (i := 6) (v := .agg (ccells X).toArray) rfl (by kernel_rfl) (by kernel_rfl) (by kernel_rfl) (fun _ _ _ ⟨_, h, _⟩ => nomatch h) (Or.inl ⟨by rfl, fun w' h => by go_simp⟩) (by assumption) ?_
          try simp only [Act.put, List.getElem_toArray, List.getElem_cons_zero, List.getElem_cons_succ, List.setIfInBounds_toArray, List.set_cons_zero, List.set_cons_succ]
          refine wpAnyH_take (i := 7) (v := .int .i64 c) rfl (by kernel_rfl) (by kernel_rfl) (by kernel_rfl) (fun _ _ _ ⟨_, h, _⟩ => nomatch h) (Or.inl ⟨by rfl, fun w' h => by go_simp⟩) (by assumption) ?_
          try simp only [Act.put, List.getElem_toArray, List.getElem_cons_zero, List.getElem_cons_succ, List.setIfInBounds_toArray, List.set_cons_zero, List.set_cons_succ]
          refine wpAnyH_ready (rs := [8]) (by kernel_rfl) (by simp) ?_
          refine AllReadyH.cons rfl (fun K hK => ?_) AllReadyH.nil
          refine if_wanted rfl ?_
          go_simp
          have bn : CBlk (x3.alloc (.cells #[.int .u8 0, .int .i16 0, .int .u8 0, .int .i16 0, .int .u8 0, .int .i16 0, .int .u8 0, .int .i16 0, .int .u8 0, .int .i16 0, .int .u8 0, .int .i16 0, .int .u8 0, .int .i16 0, .int .u8 0, .int .i16 0, .int .u8 0, .int .i16 0, .int .u8 0, .int .i16 0, .int .u8 0, .int .i16 0, .int .u8 0, .int .i16 0] 31)) x3.heap.size 31 noB := CBlk.new' rfl rfl
          have hn : W0.heap.size ≤ x3.heap.size := hHeld.size
          have hH2 : Below W0.heap.size W0 (x3.alloc (.cells #[.int .u8 0, .int .i16 0, .int .u8 0, .int .i16 0, .int .u8 0, .int .i16 0, .int .u8 0, .int .i16 0, .int .u8 0, .int .i16 0, .int .u8 0, .int .i16 0, .int .u8 0, .int .i16 0, .int .u8 0, .int .i16 0, .int .u8 0, .int .i16 0, .int .u8 0, .int .i16 0, .int .u8 0, .int .i16 0, .int .u8 0, .int .i16 0] 31)) := hHeld.alloc hHeld.size _
          obtain ⟨x4, hx⟩ : ∃ x, x3.alloc (.cells #[.int .u8 0, .int .i16 0, .int .u8 0, .int .i16 0, .int .u8 0, .int .i16 0, .int .u8 0, .int .i16 0, .int .u8 0, .int .i16 0, .int .u8 0, .int .i16 0, .int .u8 0, .int .i16 0, .int .u8 0, .int .i16 0, .int .u8 0, .int .i16 0, .int .u8 0, .int .i16 0, .int .u8 0, .int .i16 0, .int .u8 0, .int .i16 0] 31) = x := ⟨_, rfl⟩
          obtain ⟨N8, hN⟩ : ∃ N, x3.heap.size = N := ⟨_, rfl⟩
          rw [hx] at hH2 bn ⊢
          rw [hN] at hn bn ⊢
          have B8 := Lib.hid bn
          have H8 := Lib.hid hn
          clear bn hn hx hN hHeld
          refine hK.out _ _ hH2 (fun hHeld => ?_)
          clear hK K hH2
          try simp only [Act.put, List.getElem_toArray, List.getElem_cons_zero, List.getElem_cons_succ, List.setIfInBounds_toArray, List.set_cons_zero, List.set_cons_succ]
          refine wpAnyH_ready (rs := [9]) (by kernel_rfl) (by simp) ?_
          refine AllReadyH.cons rfl (fun K hK => ?_) AllReadyH.nil
          refine if_wanted rfl (wp_store_row 31 (.tmp 5) (.tmp 15) rfl N8 (ccells X).toArray rfl rfl 31 _ B8.out (size_of_crate Tryd.sizeCr _ HX.out.1) (by show (ccells noB).toArray.size = _; rw [ccells_size _ HX.out.1]; rfl) (ccells_one _) ?_)
          refine hK.out _ _ (Below.setRow hHeld _ _ H8.out) (fun hHeld => ?_)
          clear hK K
          try simp only [Act.put, List.getElem_toArray, List.getElem_cons_zero, List.getElem_cons_succ, List.setIfInBounds_toArray, List.set_cons_zero, List.set_cons_succ]
          refine wpAnyH_ready (rs := [10]) (by kernel_rfl) (by simp) ?_
          refine AllReadyH.cons rfl (fun K hK => ?_) AllReadyH.nil
          refine if_wanted rfl ?_
          refine wp_assign0 rfl rfl ?_
          refine hK.out _ _ hHeld (fun hHeld => ?_)
          clear hK K
          try simp only [Act.put, List.getElem_toArray, List.getElem_cons_zero, List.getElem_cons_succ, List.setIfInBounds_toArray, List.set_cons_zero, List.set_cons_succ]
          exact wpAnyH_done (by kernel_rfl) ⟨N8, rfl, rfl, CBlk.setRow (Y := X) B8.out, hHeld⟩ _
        refine AllReadyH.cons rfl (fun K hK => ?_) AllReadyH.nil
        refine if_wanted rfl ?_
        go_simp
        have bn : CBlk (x2.alloc (.cells #[.int .u8 0, .int .i16 0, .int .u8 0, .int .i16 0, .int .u8 0, .int .i16 0, .int .u8 0, .int .i16 0, .int .u8 0, .int .i16 0, .int .u8 0, .int .i16 0, .int .u8 0, .int .i16 0, .int .u8 0, .int .i16 0, .int .u8 0, .int .i16 0, .int .u8 0, .int .i16 0, .int .u8 0, .int .i16 0, .int .u8 0, .int .i16 0] 31)) x2.heap.size 31 noB := CBlk.new' rfl rfl
        have hn : W0.heap.size ≤ x2.heap.size := hHeld.size
        have hH2 : Below W0.heap.size W0 (x2.alloc (.cells #[.int .u8 0, .int .i16 0, .int .u8 0, .int .i16 0, .int .u8 0, .int .i16 0, .int .u8 0, .int .i16 0, .int .u8 0, .int .i16 0, .int .u8 0, .int .i16 0, .int .u8 0, .int .i16 0, .int .u8 0, .int .i16 0, .int .u8 0, .int .i16 0, .int .u8 0, .int .i16 0, .int .u8 0, .int .i16 0, .int .u8 0, .int .i16 0] 31)) := hHeld.alloc hHeld.size _
        obtain ⟨x5, hx⟩ : ∃ x, x2.alloc (.cells #[.int .u8 0, .int .i16 0, .int .u8 0, .int .i16 0, .int .u8 0, .int .i16 0, .int .u8 0, .int .i16 0, .int .u8 0, .int .i16 0, .int .u8 0, .int .i16 0, .int .u8 0, .int .i16 0, .int .u8 0, .int .i16 0, .int .u8 0, .int .i16 0, .int .u8 0, .int .i16 0, .int .u8 0, .int .i16 0, .int .u8 0, .int .i16 0] 31) = x := ⟨_, rfl⟩
        obtain ⟨N8, hN⟩ : ∃ N, x2.heap.size = N := ⟨_, rfl⟩
        rw [hx] at hH2 bn ⊢
        rw [hN] at hn bn ⊢
        have B8 := Lib.hid bn
        have H8 := Lib.hid hn
        clear bn hn hx hN hHeld
        refine hK.out _ _ hH2 (fun hHeld => ?_)
        clear hK K hH2
        try simp only [Act.put, List.getElem_toArray, List.getElem_cons_zero, List.getElem_cons_succ, List.setIfInBounds_toArray, List.set_cons_zero, List.set_cons_succ]
        refine wpAnyH_ready (rs := [4]) (by kernel_rfl) (by simp) ?_
        refine AllReadyH.cons rfl (fun K hK => ?_) AllReadyH.nil
        refine if_wanted rfl ?_
        go_simp
        refine (HS.out _).mono ?_
        rintro e x6 ⟨rfl, hb⟩
        have hH2 : Below W0.heap.size W0 x6 := hHeld.trans (hb.mono hHeld.size)
        have C8 : Hid (CBlk x6 N8 31 noB) := B8.out.below hb B8.out.lt
        clear B8
        have B8 := C8
        clear C8
        clear hb hHeld
        dsimp only
        refine hK.out _ _ hH2 (fun hHeld => ?_)
        clear hK K hH2
        try simp only [Act.put, List.getElem_toArray, List.getElem_cons_zero, List.getElem_cons_succ, List.setIfInBounds_toArray, List.set_cons_zero, List.set_cons_succ]
        refine wpAnyH_take (i := 5) (v := .tuple #[.agg (ccells X).toArray, .int .i64 c]) rfl (by kernel_rfl) (by kernel_rfl) (by kernel_rfl) (fun _ _ _ ⟨_, h, _⟩ => nomatch h) (Or.inl ⟨by rfl, fun w' h => by go_simp⟩) (by assumption) ?_
        try simp only [Act.put, List.getElem_toArray, List.getElem_cons_zero, List.getElem_cons_succ, List.setIfInBounds_toArray, List.set_cons_zero, List.set_cons_succ]
        refine wpAnyH_take (i := 6) (v := .agg (ccells X).toArray) rfl (by kernel_rfl) (by kernel_rfl) (by kernel_rfl) (fun _ _ _ ⟨_, h, _⟩ => nomatch h) (Or.inl ⟨by rfl, fun w' h => by go_simp⟩) (by assumption) ?_
        try simp only [Act.put, List.getElem_toArray, List.getElem_cons_zero, List.getElem_cons_succ, List.setIfInBounds_toArray, List.set_cons_zero, List.set_cons_succ]
        refine wpAnyH_take (i := 7) (v := .int .i64 c) rfl (by kernel_rfl) (by kernel_rfl) (by kernel_rfl) (fun _ _ _ ⟨_, h, _⟩ => nomatch h) (Or.inl ⟨by rfl, fun w' h => by go_simp⟩) (by assumption) ?_
        try simp only [Act.put, List.getElem_toArray, List.getElem_cons_zero, List.getElem_cons_succ, List.setIfInBounds_toArray, List.set_cons_zero, List.set_cons_succ]
        refine wpAnyH_ready (rs := [9]) (by kernel_rfl) (by simp) ?_
        refine AllReadyH.cons rfl (fun K hK => ?_) AllReadyH.nil
        refine if_wanted rfl (wp_store_row 31 (.tmp 5) (.tmp 15) rfl N8 (ccells X).toArray rfl rfl 31 _ B8.out (size_of_crate Tryd.sizeCr _ HX.out.1) (by show (ccells noB).toArray.size = _; rw [ccells_size _ HX.out.1]; rfl) (ccells_one _) ?_)
        refine hK.out _ _ (Below.setRow hHeld _ _ H8.out) (fun hHeld => ?_)
        clear hK K
        try simp only [Act.put, List.getElem_toArray, List.getElem_cons_zero, List.getElem_cons_succ, List.setIfInBounds_toArray, List.set_cons_zero, List.set_cons_succ]
        refine wpAnyH_ready (rs := [10]) (by kernel_rfl) (by simp) ?_
        refine AllReadyH.cons rfl (fun K hK => ?_) AllReadyH.nil
        refine if_wanted rfl ?_
        refine wp_assign0 rfl rfl ?_
        refine hK.out _ _ hHeld (fun hHeld => ?_)
        clear hK K
        try simp only [Act.put, List.getElem_toArray, List.getElem_cons_zero, List.getElem_cons_succ, List.setIfInBounds_toArray, List.set_cons_zero, List.set_cons_succ]
        exact wpAnyH_done (by kernel_rfl) ⟨N8, rfl, rfl, CBlk.setRow (Y := X) B8.out, hHeld⟩ _
      refine AllReadyH.cons rfl (fun K hK => ?_) AllReadyH.nil
      refine if_wanted rfl ?_
      go_simp
      have bn : CBlk (x1.alloc (.cells #[.int .u8 0, .int .i16 0, .int .u8 0, .int .i16 0, .int .u8 0, .int .i16 0, .int .u8 0, .int .i16 0, .int .u8 0, .int .i16 0, .int .u8 0, .int .i16 0, .int .u8 0, .int .i16 0, .int .u8 0, .int .i16 0, .int .u8 0, .int .i16 0, .int .u8 0, .int .i16 0, .int .u8 0, .int .i16 0, .int .u8 0, .int .i16 0] 31)) x1.heap.size 31 noB := CBlk.new' rfl rfl
      have hn : W0.heap.size ≤ x1.heap.size := hHeld.size
      have hH2 : Below W0.heap.size W0 (x1.alloc (.cells #[.int .u8 0, .int .i16 0, .int .u8 0, .int .i16 0, .int .u8 0, .int .i16 0, .int .u8 0, .int .i16 0, .int .u8 0, .int .i16 0, .int .u8 0, .int .i16 0, .int .u8 0, .int .i16 0, .int .u8 0, .int .i16 0, .int .u8 0, .int .i16 0, .int .u8 0, .int .i16 0, .int .u8 0, .int .i16 0, .int .u8 0, .int .i16 0] 31)) := hHeld.alloc hHeld.size _
      obtain ⟨x7, hx⟩ : ∃ x, x1.alloc (.cells #[.int .u8 0, .int .i16 0, .int .u8 0, .int .i16 0, .int .u8 0, .int .i16 0, .int .u8 0, .int .i16 0, .int .u8 0, .int .i16 0, .int .u8 0, .int .i16 0, .int .u8 0, .int .i16 0, .int .u8 0, .int .i16 0, .int .u8 0, .int .i16 0, .int .u8 0, .int .i16 0, .int .u8 0, .int .i16 0, .int .u8 0, .int .i16 0] 31) = x := ⟨_, rfl⟩
      obtain ⟨N8, hN⟩ : ∃ N, x1.heap.size = N := ⟨_, rfl⟩
      rw [hx] at hH2 bn ⊢
      rw [hN] at hn bn ⊢
      have B8 := Lib.hid bn
      have H8 := Lib.hid hn
      clear bn hn hx hN hHeld
      refine hK.out _ _ hH2 (fun hHeld => ?_)
      clear hK K hH2
      try simp only [Act.put, List.getElem_toArray, List.getElem_cons_zero, List.getElem_cons_succ, List.setIfInBounds_toArray, List.set_cons_zero, List.set_cons_succ]
      refine wpAnyH_ready (rs := [3]) (by kernel_rfl) (by simp) ?_
      refine AllReadyH.cons rfl (fun K hK => ?_) AllReadyH.nil
      refine if_wanted rfl ?_
      go_simp
      refine (toSwap_any (x, y) _).mono ?_
      rintro e x8 ⟨rfl, hb⟩
      have hH2 : Below W0.heap.size W0 x8 := hHeld.trans (hb.mono hHeld.size)
      have C8 : Hid (CBlk x8 N8 31 noB) := B8.out.below hb B8.out.lt
      clear B8
      have B8 := C8
      clear C8
      clear hb hHeld
      dsimp only
      refine hK.out _ _ hH2 (fun hHeld => ?_)
      clear hK K hH2
      try simp only [Act.put, List.getElem_toArray, List.getElem_cons_zero, List.getElem_cons_succ, List.setIfInBounds_toArray, List.set_cons_zero, List.set_cons_succ]
      refine wpAnyH_ready (rs := [4]) (by kernel_rfl) (by simp) ?_
      refine AllReadyH.cons rfl (fun K hK => ?_) AllReadyH.nil
      refine if_wanted rfl ?_
      go_simp
      refine (HS.out _).mono ?_
      rintro e x9 ⟨rfl, hb⟩
      have hH2 : Below W0.heap.size W0 x9 := hHeld.trans (hb.mono hHeld.size)
      have C8 : Hid (CBlk x9 N8 31 noB) := B8.out.below hb B8.out.lt
      clear B8
      have B8 := C8
      clear C8
      clear hb hHeld
      dsimp only
      refine hK.out _ _ hH2 (fun hHeld => ?_)
      clear hK K hH2
      try simp only [Act.put, List.getElem_toArray, List.getElem_cons_zero, List.getElem_cons_succ, List.setIfInBounds_toArray, List.set_cons_zero, List.set_cons_succ]
      refine wpAnyH_take (i := 5) (v := .tuple #[.agg (ccells X).toArray, .int .i64 c]) rfl (by kernel_rfl) (by kernel_rfl) (by kernel_rfl) (fun _ _ _ ⟨_, h, _⟩ => nomatch h) (Or.inl ⟨by rfl, fun w' h => by go_simp⟩) (by assumption) ?_
      try simp only [Act.put, List.getElem_toArray, List.getElem_cons_zero, List.getElem_cons_succ, List.setIfInBounds_toArray, List.set_cons_zero, List.set_cons_succ]
      refine wpAnyH_take (i := 6) (v := .agg (ccells X).toArray) rfl (by kernel_rfl) (by kernel_rfl) (by kernel_rfl) (fun _ _ _ ⟨_, h, _⟩ => nomatch h) (Or.inl ⟨by rfl, fun w' h => by go_simp⟩) (by assumption) ?_
      try simp only [Act.put, List.getElem_toArray, List.getElem_cons_zero, List.getElem_cons_succ, List.setIfInBounds_toArray, List.set_cons_zero, List.set_cons_succ]
      refine wpAnyH_take (i := 7) (v := .int .i64 c) rfl (by kernel_rfl) (by kernel_rfl) (by kernel_rfl) (fun _ _ _ ⟨_, h, _⟩ => nomatch h) (Or.inl ⟨by rfl, fun w' h => by go_simp⟩) (by assumption) ?_
      try simp only [Act.put, List.getElem_toArray, List.getElem_cons_zero, List.getElem_cons_succ, List.setIfInBounds_toArray, List.set_cons_zero, List.set_cons_succ]
      refine wpAnyH_ready (rs := [9]) (by kernel_rfl) (by simp) ?_
      refine AllReadyH.cons rfl (fun K hK => ?_) AllReadyH.nil
      refine if_wanted rfl (wp_store_row 31 (.tmp 5) (.tmp 15) rfl N8 (ccells X).toArray rfl rfl 31 _ B8.out (size_of_crate Tryd.sizeCr _ HX.out.1) (by show (ccells noB).toArray.size = _; rw [ccells_size _ HX.out.1]; rfl) (ccells_one _) ?_)
      refine hK.out _ _ (Below.setRow hHeld _ _ H8.out) (fun hHeld => ?_)
      clear hK K
      try simp only [Act.put, List.getElem_toArray, List.getElem_cons_zero, List.getElem_cons_succ, List.setIfInBounds_toArray, List.set_cons_zero, List.set_cons_succ]
      refine wpAnyH_ready (rs := [10]) (by kernel_rfl) (by simp) ?_
      refine AllReadyH.cons rfl (fun K hK => ?_) AllReadyH.nil
      refine if_wanted rfl ?_
      refine wp_assign0 rfl rfl ?_
      refine hK.out _ _ hHeld (fun hHeld => ?_)
      clear hK K
      try simp only [Act.put, List.getElem_toArray, List.getElem_cons_zero, List.getElem_cons_succ, List.setIfInBounds_toArray, List.set_cons_zero, List.set_cons_succ]
      exact wpAnyH_done (by kernel_rfl) ⟨N8, rfl, rfl, CBlk.setRow (Y := X) B8.out, hHeld⟩ _
    refine AllReadyH.cons rfl (fun K hK => ?_) AllReadyH.nil
    refine if_wanted rfl ?_
    go_simp
    have bn : CBlk (D0.alloc (.cells #[.int .u8 0, .int .i16 0, .int .u8 0, .int .i16 0, .int .u8 0, .int .i16 0, .int .u8 0, .int .i16 0, .int .u8 0, .int .i16 0, .int .u8 0, .int .i16 0, .int .u8 0, .int .i16 0, .int .u8 0, .int .i16 0, .int .u8 0, .int .i16 0, .int .u8 0, .int .i16 0, .int .u8 0, .int .i16 0, .int .u8 0, .int .i16 0] 31)) D0.heap.size 31 noB := CBlk.new' rfl rfl
    have hn : W0.heap.size ≤ D0.heap.size := hHeld.size
    have hH2 : Below W0.heap.size W0 (D0.alloc (.cells #[.int .u8 0, .int .i16 0, .int .u8 0, .int .i16 0, .int .u8 0, .int .i16 0, .int .u8 0, .int .i16 0, .int .u8 0, .int .i16 0, .int .u8 0, .int .i16 0, .int .u8 0, .int .i16 0, .int .u8 0, .int .i16 0, .int .u8 0, .int .i16 0, .int .u8 0, .int .i16 0, .int .u8 0, .int .i16 0, .int .u8 0, .int .i16 0] 31)) := hHeld.alloc hHeld.size _
    obtain ⟨x10, hx⟩ : ∃ x, D0.alloc (.cells #[.int .u8 0, .int .i16 0, .int .u8 0, .int .i16 0, .int .u8 0, .int .i16 0, .int .u8 0, .int .i16 0, .int .u8 0, .int .i16 0, .int .u8 0, .int .i16 0, .int .u8 0, .int .i16 0, .int .u8 0, .int .i16 0, .int .u8 0, .int .i16 0, .int .u8 0, .int .i16 0, .int .u8 0, .int .i16 0, .int .u8 0, .int .i16 0] 31) = x := ⟨_, rfl⟩
    obtain ⟨N8, hN⟩ : ∃ N, D0.heap.size = N := ⟨_, rfl⟩
    rw [hx] at hH2 bn ⊢
    rw [hN] at hn bn ⊢
    have B8 := Lib.hid bn
    have H8 := Lib.hid hn
    clear bn hn hx hN hHeld
    refine hK.out _ _ hH2 (fun hHeld => ?_)
    clear hK K hH2
    try simp only [Act.put, List.getElem_toArray, List.getElem_cons_zero, List.getElem_cons_succ, List.setIfInBounds_toArray, List.set_cons_zero, List.set_cons_succ]
    refine wpAnyH_ready (rs := [1]) (by kernel_rfl) (by simp) ?_
    refine AllReadyH.cons rfl (fun K hK => ?_) AllReadyH.nil
    refine if_wanted rfl ?_
    go_simp
    refine (toCrate_any bs HW.out.1 _).mono ?_
    rintro e x11 ⟨rfl, hb⟩
    have hH2 : Below W0.heap.size W0 x11 := hHeld.trans (hb.mono hHeld.size)
    have C8 : Hid (CBlk x11 N8 31 noB) := B8.out.below hb B8.out.lt
    clear B8
    have B8 := C8
    clear C8
    clear hb hHeld
    dsimp only
    refine hK.out _ _ hH2 (fun hHeld => ?_)
    clear hK K hH2
    try simp only [Act.put, List.getElem_toArray, List.getElem_cons_zero, List.getElem_cons_succ, List.setIfInBounds_toArray, List.set_cons_zero, List.set_cons_succ]
    refine wpAnyH_ready (rs := [3]) (by kernel_rfl) (by simp) ?_
    refine AllReadyH.cons rfl (fun K hK => ?_) AllReadyH.nil
    refine if_wanted rfl ?_
    go_simp
    refine (toSwap_any (x, y) _).mono ?_
    rintro e x12 ⟨rfl, hb⟩
    have hH2 : Below W0.heap.size W0 x12 := hHeld.trans (hb.mono hHeld.size)
    have C8 : Hid (CBlk x12 N8 31 noB) := B8.out.below hb B8.out.lt
    clear B8
    have B8 := C8
    clear C8
    clear hb hHeld
    dsimp only
    refine hK.out _ _ hH2 (fun hHeld => ?_)
    clear hK K hH2
    try simp only [Act.put, List.getElem_toArray, List.getElem_cons_zero, List.getElem_cons_succ, List.setIfInBounds_toArray, List.set_cons_zero, List.set_cons_succ]
    refine wpAnyH_ready (rs := [4]) (by kernel_rfl) (by simp) ?_
    refine AllReadyH.cons rfl (fun K hK => ?_) AllReadyH.nil
    refine if_wanted rfl ?_
    go_simp
    refine (HS.out _).mono ?_
    rintro e x13 ⟨rfl, hb⟩
    have hH2 : Below W0.heap.size W0 x13 := hHeld.trans (hb.mono hHeld.size)
    have C8 : Hid (CBlk x13 N8 31 noB) := B8.out.below hb B8.out.lt
    clear B8
    have B8 := C8
    clear C8
    clear hb hHeld
    dsimp only
    refine hK.out _ _ hH2 (fun hHeld => ?_)
    clear hK K hH2
    try simp only [Act.put, List.getElem_toArray, List.getElem_cons_zero, List.getElem_cons_succ, List.setIfInBounds_toArray, List.set_cons_zero, List.set_cons_succ]
    refine wpAnyH_take (i := 5) (v := .tuple #[.agg (ccells X).toArray, .int .i64 c]) rfl (by kernel_rfl) (by kernel_rfl) (by kernel_rfl) (fun _ _ _ ⟨_, h, _⟩ => nomatch h) (Or.inl ⟨by rfl, fun w' h => by go_simp⟩) (by assumption) ?_
    try simp only [Act.put, List.getElem_toArray, List.getElem_cons_zero, List.getElem_cons_succ, List.setIfInBounds_toArray, List.set_cons_zero, List.set_cons_succ]
    refine wpAnyH_take (i := 6) (v := .agg (ccells X).toArray) rfl (by kernel_rfl) (by kernel_rfl) (by kernel_rfl) (fun _ _ _ ⟨_, h, _⟩ => nomatch h) (Or.inl ⟨by rfl, fun w' h => by go_simp⟩) (by assumption) ?_
    try simp only [Act.put, List.getElem_toArray, List.getElem_cons_zero, List.getElem_cons_succ, List.setIfInBounds_toArray, List.set_cons_zero, List.set_cons_succ]
    refine wpAnyH_take (i := 7) (v := .int .i64 c) rfl (by kernel_rfl) (by kernel_rfl) (by kernel_rfl) (fun _ _ _ ⟨_, h, _⟩ => nomatch h) (Or.inl ⟨by rfl, fun w' h => by go_simp⟩) (by assumption) ?_
    try simp only [Act.put, List.getElem_toArray, List.getElem_cons_zero, List.getElem_cons_succ, List.setIfInBounds_toArray, List.set_cons_zero, List.set_cons_succ]
    refine wpAnyH_ready (rs := [9]) (by kernel_rfl) (by simp) ?_
    refine AllReadyH.cons rfl (fun K hK => ?_) AllReadyH.nil
    refine if_wanted rfl (wp_store_row 31 (.tmp 5) (.tmp 15) rfl N8 (ccells X).toArray rfl rfl 31 _ B8.out (size_of_crate Tryd.sizeCr _ HX.out.1) (by show (ccells noB).toArray.size = _; rw [ccells_size _ HX.out.1]; rfl) (ccells_one _) ?_)
    refine hK.out _ _ (Below.setRow hHeld _ _ H8.out) (fun hHeld => ?_)
    clear hK K
    try simp only [Act.put, List.getElem_toArray, List.getElem_cons_zero, List.getElem_cons_succ, List.setIfInBounds_toArray, List.set_cons_zero, List.set_cons_succ]
    refine wpAnyH_ready (rs := [10]) (by kernel_rfl) (by simp) ?_
    refine AllReadyH.cons rfl (fun K hK => ?_) AllReadyH.nil
    refine if_wanted rfl ?_
    refine wp_assign0 rfl rfl ?_
    refine hK.out _ _ hHeld (fun hHeld => ?_)
    clear hK K
    try simp only [Act.put, List.getElem_toArray, List.getElem_cons_zero, List.getElem_cons_succ, List.setIfInBounds_toArray, List.set_cons_zero, List.set_cons_succ]
    exact wpAnyH_done (by kernel_rfl) ⟨N8, rfl, rfl, CBlk.setRow (Y := X) B8.out, hHeld⟩ _
  rintro e a' w1 ⟨B1, rfl, rfl, hC, hb⟩
  have C1 := Lib.hid hC
  have I1 : Hid (CBlk w1 w.heap.size 25 bs) := G1.out.below hb G1.out.lt
  have I2 : Hid (Blk w1 (w.heap.size + 1) 28 #[.int .i8 x, .int .i8 y]) := G2.out.below hb G2.out.lt
  have I3 : Hid (Below w.heap.size w w1) := G3.out.trans (hb.mono G3.out.size)
  clear hC hb
  go_wp2_with fail
  refine Code.wp_mono (Q := fun e a' w' => ∃ B3, e = .normal ∧ a' = { tmps := #[.agg (ccells bs).toArray, .agg #[.int .i8 x, .int .i8 y], .pointer (some ⟨w.heap.size, 0, none⟩), .pointer (some ⟨w.heap.size + 1, 0, none⟩), .bool false, .pointer (some ⟨B1, 0, none⟩), .int .i64 c, .pointer (some ⟨B3, 0, none⟩), .int .i64 c, .tuple #[.agg (ccells X).toArray, .int .i64 c], .agg (ccells bs).toArray, .agg (ccells bs).toArray, .agg #[.int .i8 x, .int .i8 y], .agg #[.int .i8 x, .int .i8 y], .tuple #[.agg (ccells X).toArray, .int .i64 c], .agg (ccells X).toArray, .int .i64 c, .tuple #[.agg (ccells X).toArray, .int .i64 c], .agg (ccells bs).toArray, .agg (ccells bs).toArray, .agg #[.int .i8 x, .int .i8 y], .agg #[.int .i8 x, .int .i8 y], .tuple #[.agg (ccells X).toArray, .int .i64 c], .agg (ccells X).toArray, .int .i64 c, undef, undef, undef, undef, undef, undef, undef, undef, undef], defers := [] } ∧ CBlk w' B3 31 X ∧ Below w1.heap.size w1 w') ?_ ?_
  rotate_left
  · skip
    refine wp_region_held_drew (S := fun w' => Below w1.heap.size w1 w') (by kernel_rfl) (Below.refl _ _).drew (fun hHeld => ?_)
    refine' wpAnyH_take (i := 0) (v := _) rfl (by kernel_rfl) (by kernel_rfl) (by kernel_rfl) (fun _ _ _ ⟨_, h, _⟩ => nomatch h) (yieldsIf_load_mid (by rfl) 25 (.tmp 2) rfl w.heap.size 0 rfl (ccells bs) _ (fun w h => CBlk.range (I1.out.below h I1.out.lt)) Tryd.underlying25 rfl (size_of_crate Tryd.sizeLc _ HW.out.1)) (by assumption) ?_
    try simp only [Act.put, List.getElem_toArray, List.getElem_cons_zero, List.getElem_cons_succ, List.setIfInBounds_toArray, List.set_cons_zero, List.set_cons_succ]
    refine wpAnyH_take (i := 2) (v := .agg #[.int .i8 x, .int .i8 y]) rfl (by kernel_rfl) (by kernel_rfl) (by kernel_rfl) (fun _ _ _ ⟨_, h, _⟩ => nomatch h) (Or.inl ⟨by rfl, fun w' h => by have e3 : w'.cell? ⟨w.heap.size + 1, 0, none⟩ = some (.int .i8 x) := (I2.out.below h I2.out.lt).cell 0; have e4 : w'.cell? ⟨w.heap.size + 1, 1, none⟩ = some (.int .i8 y) := (I2.out.below h I2.out.lt).cell 1; go_simp⟩) (by assumption) ?_
    try simp only [Act.put, List.getElem_toArray, List.getElem_cons_zero, List.getElem_cons_succ, List.setIfInBounds_toArray, List.set_cons_zero, List.set_cons_succ]
    obtain ⟨D0, hD0⟩ : ∃ D0, w1.drew = D0 := ⟨_, rfl⟩
    rw [hD0] at hHeld ⊢
    clear hD0
    refine wpAnyH_ready (rs := [1, 8]) (by kernel_rfl) (by simp) ?_
    refine AllReadyH.cons rfl (fun K hK => ?_) ?_
    · skip
      refine if_wanted rfl ?_
      go_simp
      refine (toCrate_any bs HW.out.1 _).mono ?_
      rintro e x1 ⟨rfl, hb⟩
      have hH2 : Below w1.heap.size w1 x1 := hHeld.trans (hb.mono hHeld.size)
      clear hb hHeld
      dsimp only
      refine hK.out _ _ hH2 (fun hHeld => ?_)
      clear hK K hH2
      try simp only [Act.put, List.getElem_toArray, List.getElem_cons_zero, List.getElem_cons_succ, List.setIfInBounds_toArray, List.set_cons_zero, List.set_cons_succ]
      refine wpAnyH_ready (rs := [3, 8]) (by kernel_rfl) (by simp) ?_
      refine AllReadyH.cons rfl (fun K hK => ?_) ?_
      · skip
        refine if_wanted rfl ?_
        go_simp
        refine (toSwap_any (x, y) _).mono ?_
        rintro e x2 ⟨rfl, hb⟩
        have hH2 : Below w1.heap.size w1 x2 := hHeld.trans (hb.mono hHeld.size)
        clear hb hHeld
        dsimp only
        refine hK.out _ _ hH2 (fun hHeld => ?_)
        clear hK K hH2
        try simp only [Act.put, List.getElem_toArray, List.getElem_cons_zero, List.getElem_cons_succ, List.setIfInBounds_toArray, List.set_cons_zero, List.set_cons_succ]
        refine wpAnyH_ready (rs := [4, 8]) (by kernel_rfl) (by simp) ?_
        refine AllReadyH.cons rfl (fun K hK => ?_) ?_
        · skip
          refine if_wanted rfl ?_
          go_simp
          refine (HI.out ad _ (HE.out.below (I3.out.trans (hHeld.mono I3.out.size)) (Nat.le_refl _))).mono ?_
          rintro e x3 ⟨rfl, hb⟩
          have hH2 : Below w1.heap.size w1 x3 := hHeld.trans (hb.mono hHeld.size)
          clear hb hHeld
          dsimp only
          refine hK.out _ _ hH2 (fun hHeld => ?_)
          clear hK K hH2
          try simp only [Act.put, List.getElem_toArray, List.getElem_cons_zero, List.getElem_cons_succ, List.setIfInBounds_toArray, List.set_cons_zero, List.set_cons_succ]
          refine wpAnyH_take (i := 5) (v := .tuple #[.agg (ccells X).toArray, .int .i64 c]) rfl (by kernel_rfl) (by kernel_rfl) (by kernel_rfl) (fun _ _ _ ⟨_, h, _⟩ => nomatch h) (Or.inl ⟨by rfl, fun w' h => by go_simp⟩) (by assumption) ?_
          try simp only [Act.put, List.getElem_toArray, List.getElem_cons_zero, List.getElem_cons_succ, List.setIfInBounds_toArray, List.set_cons_zero, List.set_cons_succ]
          refine wpAnyH_take (i := 6) (v := .agg (ccells X).toArray) rfl (by kernel_rfl) (by kernel_rfl) (by kernel_rfl) (fun _ _ _ ⟨_, h, _⟩ => nomatch h) (Or.inl ⟨by rfl, fun w' h => by go_simp⟩) (by assumption) ?_
          try simp only [Act.put, List.getElem_toArray, List.getElem_cons_zero, List.getElem_cons_succ, List.setIfInBounds_toArray, List.set_cons_zero, List.set_cons_succ]
          refine wpAnyH_take (i := 7) (v := .int .i64 c) rfl (by kernel_rfl) (by kernel_rfl) (by kernel_rfl) (fun _ _ _ ⟨_, h, _⟩ => nomatch h) (Or.inl ⟨by rfl, fun w' h => by go_simp⟩) (by assumption) ?_
          try simp only [Act.put, List.getElem_toArray, List.getElem_cons_zero, List.getElem_cons_succ, List.setIfInBounds_toArray, List.set_cons_zero, List.set_cons_succ]
          refine wpAnyH_ready (rs := [8]) (by kernel_rfl) (by simp) ?_
          refine AllReadyH.cons rfl (fun K hK => ?_) AllReadyH.nil
          refine if_wanted rfl ?_
          go_simp
          have bn : CBlk (x3.alloc (.cells #[.int .u8 0, .int .i16 0, .int .u8 0, .int .i16 0, .int .u8 0, .int .i16 0, .int .u8 0, .int .i16 0, .int .u8 0, .int .i16 0, .int .u8 0, .int .i16 0, .int .u8 0, .int .i16 0, .int .u8 0, .int .i16 0, .int .u8 0, .int .i16 0, .int .u8 0, .int .i16 0, .int .u8 0, .int .i16 0, .int .u8 0, .int .i16 0] 31)) x3.heap.size 31 noB := CBlk.new' rfl rfl
          have hn : w1.heap.size ≤ x3.heap.size := hHeld.size
          have hH2 : Below w1.heap.size w1 (x3.alloc (.cells #[.int .u8 0, .int .i16 0, .int .u8 0, .int .i16 0, .int .u8 0, .int .i16 0, .int .u8 0, .int .i16 0, .int .u8 0, .int .i16 0, .int .u8 0, .int .i16 0, .int .u8 0, .int .i16 0, .int .u8 0, .int .i16 0, .int .u8 0, .int .i16 0, .int .u8 0, .int .i16 0, .int .u8 0, .int .i16 0, .int .u8 0, .int .i16 0] 31)) := hHeld.alloc hHeld.size _
          obtain ⟨x4, hx⟩ : ∃ x, x3.alloc (.cells #[.int .u8 0, .int .i16 0, .int .u8 0, .int .i16 0, .int .u8 0, .int .i16 0, .int .u8 0, .int .i16 0, .int .u8 0, .int .i16 0, .int .u8 0, .int .i16 0, .int .u8 0, .int .i16 0, .int .u8 0, .int .i16 0, .int .u8 0, .int .i16 0, .int .u8 0, .int .i16 0, .int .u8 0, .int .i16 0, .int .u8 0, .int .i16 0] 31) = x := ⟨_, rfl⟩
          obtain ⟨N8, hN⟩ : ∃ N, x3.heap.size = N := ⟨_, rfl⟩
          rw [hx] at hH2 bn ⊢
          rw [hN] at hn bn ⊢
          have B8 := Lib.hid bn
          have H8 := Lib.hid hn
          clear bn hn hx hN hHeld
          refine hK.out _ _ hH2 (fun hHeld => ?_)
          clear hK K hH2
          try simp only [Act.put, List.getElem_toArray, List.getElem_cons_zero, List.getElem_cons_succ, List.setIfInBounds_toArray, List.set_cons_zero, List.set_cons_succ]
          refine wpAnyH_ready (rs := [9]) (by kernel_rfl) (by simp) ?_
          refine AllReadyH.cons rfl (fun K hK => ?_) AllReadyH.nil
          refine if_wanted rfl (wp_store_row 31 (.tmp 7) (.tmp 23) rfl N8 (ccells X).toArray rfl rfl 31 _ B8.out (size_of_crate Tryd.sizeCr _ HX.out.1) (by show (ccells noB).toArray.size = _; rw [ccells_size _ HX.out.1]; rfl) (ccells_one _) ?_)
          refine hK.out _ _ (Below.setRow hHeld _ _ H8.out) (fun hHeld => ?_)
          clear hK K
          try simp only [Act.put, List.getElem_toArray, List.getElem_cons_zero, List.getElem_cons_succ, List.setIfInBounds_toArray, List.set_cons_zero, List.set_cons_succ]
          refine wpAnyH_ready (rs := [10]) (by kernel_rfl) (by simp) ?_
          refine AllReadyH.cons rfl (fun K hK => ?_) AllReadyH.nil
          refine if_wanted rfl ?_
          refine wp_assign0 rfl rfl ?_
          refine hK.out _ _ hHeld (fun hHeld => ?_)
          clear hK K
          try simp only [Act.put, List.getElem_toArray, List.getElem_cons_zero, List.getElem_cons_succ, List.setIfInBounds_toArray, List.set_cons_zero, List.set_cons_succ]
          exact wpAnyH_done (by kernel_rfl) ⟨N8, rfl, rfl, CBlk.setRow (Y := X) B8.out, hHeld⟩ _
        refine AllReadyH.cons rfl (fun K hK => ?_) AllReadyH.nil
        refine if_wanted rfl ?_
        go_simp
        have bn : CBlk (x2.alloc (.cells #[.int .u8 0, .int .i16 0, .int .u8 0, .int .i16 0, .int .u8 0, .int .i16 0, .int .u8 0, .int .i16 0, .int .u8 0, .int .i16 0, .int .u8 0, .int .i16 0, .int .u8 0, .int .i16 0, .int .u8 0, .int .i16 0, .int .u8 0, .int .i16 0, .int .u8 0, .int .i16 0, .int .u8 0, .int .i16 0, .int .u8 0, .int .i16 0] 31)) x2.heap.size 31 noB := CBlk.new' rfl rfl
        have hn : w1.heap.size ≤ x2.heap.size := hHeld.size
        have hH2 : Below w1.heap.size w1 (x2.alloc (.cells #[.int .u8 0, .int .i16 0, .int .u8 0, .int .i16 0, .int .u8 0, .int .i16 0, .int .u8 0, .int .i16 0, .int .u8 0, .int .i16 0, .int .u8 0, .int .i16 0, .int .u8 0, .int .i16 0, .int .u8 0, .int .i16 0, .int .u8 0, .int .i16 0, .int .u8 0, .int .i16 0, .int .u8 0, .int .i16 0, .int .u8 0, .int .i16 0] 31)) := hHeld.alloc hHeld.size _
        obtain ⟨x5, hx⟩ : ∃ x, x2.alloc (.cells #[.int .u8 0, .int .i16 0, .int .u8 0, .int .i16 0, .int .u8 0, .int .i16 0, .int .u8 0, .int .i16 0, .int .u8 0, .int .i16 0, .int .u8 0, .int .i16 0, .int .u8 0, .int .i16 0, .int .u8 0, .int .i16 0, .int .u8 0, .int .i16 0, .int .u8 0, .int .i16 0, .int .u8 0, .int .i16 0, .int .u8 0, .int .i16 0] 31) = x := ⟨_, rfl⟩
        obtain ⟨N8, hN⟩ : ∃ N, x2.heap.size = N := ⟨_, rfl⟩
        rw [hx] at hH2 bn ⊢
        rw [hN] at hn bn ⊢
        have B8 := Lib.hid bn
        have H8 := Lib.hid hn
        clear bn hn hx hN hHeld
        refine hK.out _ _ hH2 (fun hHeld => ?_)
        clear hK K hH2
        try simp only [Act.put, List.getElem_toArray, List.getElem_cons_zero, List.getElem_cons_succ, List.setIfInBounds_toArray, List.set_cons_zero, List.set_cons_succ]
        refine wpAnyH_ready (rs := [4]) (by kernel_rfl) (by simp) ?_
        refine AllReadyH.cons rfl (fun K hK => ?_) AllReadyH.nil
        refine if_wanted rfl ?_
        go_simp
        refine (HI.out ad _ (HE.out.below (I3.out.trans (hHeld.mono I3.out.size)) (Nat.le_refl _))).mono ?_
        rintro e x6 ⟨rfl, hb⟩
        have hH2 : Below w1.heap.size w1 x6 := hHeld.trans (hb.mono hHeld.size)
        have C8 : Hid (CBlk x6 N8 31 noB) := B8.out.below hb B8.out.lt
        clear B8
        have B8 := C8
        clear C8
        clear hb hHeld
        dsimp only
        refine hK.out _ _ hH2 (fun hHeld => ?_)
        clear hK K hH2
        try simp only [Act.put, List.getElem_toArray, List.getElem_cons_zero, List.getElem_cons_succ, List.setIfInBounds_toArray, List.set_cons_zero, List.set_cons_succ]
        refine wpAnyH_take (i := 5) (v := .tuple #[.agg (ccells X).toArray, .int .i64 c]) rfl (by kernel_rfl) (by kernel_rfl) (by kernel_rfl) (fun _ _ _ ⟨_, h, _⟩ => nomatch h) (Or.inl ⟨by rfl, fun w' h => by go_simp⟩) (by assumption) ?_
        try simp only [Act.put, List.getElem_toArray, List.getElem_cons_zero, List.getElem_cons_succ, List.setIfInBounds_toArray, List.set_cons_zero, List.set_cons_succ]
        refine wpAnyH_take (i := 6) (v := .agg (ccells X).toArray) rfl (by kernel_rfl) (by kernel_rfl) (by kernel_rfl) (fun _ _ _ ⟨_, h, _⟩ => nomatch h) (Or.inl ⟨by rfl, fun w' h => by go_simp⟩) (by assumption) ?_
        try simp only [Act.put, List.getElem_toArray, List.getElem_cons_zero, List.getElem_cons_succ, List.setIfInBounds_toArray, List.set_cons_zero, List.set_cons_succ]
        refine wpAnyH_take (i := 7) (v := .int .i64 c) rfl (by kernel_rfl) (by kernel_rfl) (by kernel_rfl) (fun _ _ _ ⟨_, h, _⟩ => nomatch h) (Or.inl ⟨by rfl, fun w' h => by go_simp⟩) (by assumption) ?_
        try simp only [Act.put, List.getElem_toArray, List.getElem_cons_zero, List.getElem_cons_succ, List.setIfInBounds_toArray, List.set_cons_zero, List.set_cons_succ]
        refine wpAnyH_ready (rs := [9]) (by kernel_rfl) (by simp) ?_
        refine AllReadyH.cons rfl (fun K hK => ?_) AllReadyH.nil
        refine if_wanted rfl (wp_store_row 31 (.tmp 7) (.tmp 23) rfl N8 (ccells X).toArray rfl rfl 31 _ B8.out (size_of_crate Tryd.sizeCr _ HX.out.1) (by show (ccells noB).toArray.size = _; rw [ccells_size _ HX.out.1]; rfl) (ccells_one _) ?_)
        refine hK.out _ _ (Below.setRow hHeld _ _ H8.out) (fun hHeld => ?_)
        clear hK K
        try simp only [Act.put, List.getElem_toArray, List.getElem_cons_zero, List.getElem_cons_succ, List.setIfInBounds_toArray, List.set_cons_zero, List.set_cons_succ]
        refine wpAnyH_ready (rs := [10]) (by kernel_rfl) (by simp) ?_
        refine AllReadyH.cons rfl (fun K hK => ?_) AllReadyH.nil
        refine if_wanted rfl ?_
        refine wp_assign0 rfl rfl ?_
        refine hK.out _ _ hHeld (fun hHeld => ?_)
        clear hK K
        try simp only [Act.put, List.getElem_toArray, List.getElem_cons_zero, List.getElem_cons_succ, List.setIfInBounds_toArray, List.set_cons_zero, List.set_cons_succ]
        exact wpAnyH_done (by kernel_rfl) ⟨N8, rfl, rfl, CBlk.setRow (Y := X) B8.out, hHeld⟩ _
      refine AllReadyH.cons rfl (fun K hK => ?_) AllReadyH.nil
      refine if_wanted rfl ?_
      go_simp
      have bn : CBlk (x1.alloc (.cells #[.int .u8 0, .int .i16 0, .int .u8 0, .int .i16 0, .int .u8 0, .int .i16 0, .int .u8 0, .int .i16 0, .int .u8 0, .int .i16 0, .int .u8 0, .int .i16 0, .int .u8 0, .int .i16 0, .int .u8 0, .int .i16 0, .int .u8 0, .int .i16 0, .int .u8 0, .int .i16 0, .int .u8 0, .int .i16 0, .int .u8 0, .int .i16 0] 31)) x1.heap.size 31 noB := CBlk.new' rfl rfl
      have hn : w1.heap.size ≤ x1.heap.size := hHeld.size
      have hH2 : Below w1.heap.size w1 (x1.alloc (.cells #[.int .u8 0, .int .i16 0, .int .u8 0, .int .i16 0, .int .u8 0, .int .i16 0, .int .u8 0, .int .i16 0, .int .u8 0, .int .i16 0, .int .u8 0, .int .i16 0, .int .u8 0, .int .i16 0, .int .u8 0, .int .i16 0, .int .u8 0, .int .i16 0, .int .u8 0, .int .i16 0, .int .u8 0, .int .i16 0, .int .u8 0, .int .i16 0] 31)) := hHeld.alloc hHeld.size _
      obtain ⟨x7, hx⟩ : ∃ x, x1.alloc (.cells #[.int .u8 0, .int .i16 0, .int .u8 0, .int .i16 0, .int .u8 0, .int .i16 0, .int .u8 0, .int .i16 0, .int .u8 0, .int .i16 0, .int .u8 0, .int .i16 0, .int .u8 0, .int .i16 0, .int .u8 0, .int .i16 0, .int .u8 0, .int .i16 0, .int .u8 0, .int .i16 0, .int .u8 0, .int .i16 0, .int .u8 0, .int .i16 0] 31) = x := ⟨_, rfl⟩
      obtain ⟨N8, hN⟩ : ∃ N, x1.heap.size = N := ⟨_, rfl⟩
      rw [hx] at hH2 bn ⊢
      rw [hN] at hn bn ⊢
      have B8 := Lib.hid bn
      have H8 := Lib.hid hn
      clear bn hn hx hN hHeld
      refine hK.out _ _ hH2 (fun hHeld => ?_)
      clear hK K hH2
      try simp only [Act.put, List.getElem_toArray, List.getElem_cons_zero, List.getElem_cons_succ, List.setIfInBounds_toArray, List.set_cons_zero, List.set_cons_succ]
      refine wpAnyH_ready (rs := [3]) (by kernel_rfl) (by simp) ?_
      refine AllReadyH.cons rfl (fun K hK => ?_) AllReadyH.nil
      refine if_wanted rfl ?_
      go_simp
      refine (toSwap_any (x, y) _).mono ?_
      rintro e x8 ⟨rfl, hb⟩
      have hH2 : Below w1.heap.size w1 x8 := hHeld.trans (hb.mono hHeld.size)
      have C8 : Hid (CBlk x8 N8 31 noB) := B8.out.below hb B8.out.lt
      clear B8
      have B8 := C8
      clear C8
      clear hb hHeld
      dsimp only
      refine hK.out _ _ hH2 (fun hHeld => ?_)
      clear hK K hH2
      try simp only [Act.put, List.getElem_toArray, List.getElem_cons_zero, List.getElem_cons_succ, List.setIfInBounds_toArray, List.set_cons_zero, List.set_cons_succ]
      refine wpAnyH_ready (rs := [4]) (by kernel_rfl) (by simp) ?_
      refine AllReadyH.cons rfl (fun K hK => ?_) AllReadyH.nil
      refine if_wanted rfl ?_
      go_simp
      refine (HI.out ad _ (HE.out.below (I3.out.trans (hHeld.mono I3.out.size)) (Nat.le_refl _))).mono ?_
      rintro e x9 ⟨rfl, hb⟩
      have hH2 : Below w1.heap.size w1 x9 := hHeld.trans (hb.mono hHeld.size)
      have C8 : Hid (CBlk x9 N8 31 noB) := B8.out.below hb B8.out.lt
      clear B8
      have B8 := C8
      clear C8
      clear hb hHeld
      dsimp only
      refine hK.out _ _ hH2 (fun hHeld => ?_)
      clear hK K hH2
      try simp only [Act.put, List.getElem_toArray, List.getElem_cons_zero, List.getElem_cons_succ, List.setIfInBounds_toArray, List.set_cons_zero, List.set_cons_succ]
      refine wpAnyH_take (i := 5) (v := .tuple #[.agg (ccells X).toArray, .int .i64 c]) rfl (by kernel_rfl) (by kernel_rfl) (by kernel_rfl) (fun _ _ _ ⟨_, h, _⟩ => nomatch h) (Or.inl ⟨by rfl, fun w' h => by go_simp⟩) (by assumption) ?_
      try simp only [Act.put, List.getElem_toArray, List.getElem_cons_zero, List.getElem_cons_succ, List.setIfInBounds_toArray, List.set_cons_zero, List.set_cons_succ]
      refine wpAnyH_take (i := 6) (v := .agg (ccells X).toArray) rfl (by kernel_rfl) (by kernel_rfl) (by kernel_rfl) (fun _ _ _ ⟨_, h, _⟩ => nomatch h) (Or.inl ⟨by rfl, fun w' h => by go_simp⟩) (by assumption) ?_
      try simp only [Act.put, List.getElem_toArray, List.getElem_cons_zero, List.getElem_cons_succ, List.setIfInBounds_toArray, List.set_cons_zero, List.set_cons_succ]
      refine wpAnyH_take (i := 7) (v := .int .i64 c) rfl (by kernel_rfl) (by kernel_rfl) (by kernel_rfl) (fun _ _ _ ⟨_, h, _⟩ => nomatch h) (Or.inl ⟨by rfl, fun w' h => by go_simp⟩) (by assumption) ?_
      try simp only [Act.put, List.getElem_toArray, List.getElem_cons_zero, List.getElem_cons_succ, List.setIfInBounds_toArray, List.set_cons_zero, List.set_cons_succ]
      refine wpAnyH_ready (rs := [9]) (by kernel_rfl) (by simp) ?_
      refine AllReadyH.cons rfl (fun K hK => ?_) AllReadyH.nil
      refine if_wanted rfl (wp_store_row 31 (.tmp 7) (.tmp 23) rfl N8 (ccells X).toArray rfl rfl 31 _ B8.out (size_of_crate Tryd.sizeCr _ HX.out.1) (by show (ccells noB).toArray.size = _; rw [ccells_size _ HX.out.1]; rfl) (ccells_one _) ?_)
      refine hK.out _ _ (Below.setRow hHeld _ _ H8.out) (fun hHeld => ?_)
      clear hK K
      try simp only [Act.put, List.getElem_toArray, List.getElem_cons_zero, List.getElem_cons_succ, List.setIfInBounds_toArray, List.set_cons_zero, List.set_cons_succ]
      refine wpAnyH_ready (rs := [10]) (by kernel_rfl) (by simp) ?_
      refine AllReadyH.cons rfl (fun K hK => ?_) AllReadyH.nil
      refine if_wanted rfl ?_
      refine wp_assign0 rfl rfl ?_
      refine hK.out _ _ hHeld (fun hHeld => ?_)
      clear hK K
      try simp only [Act.put, List.getElem_toArray, List.getElem_cons_zero, List.getElem_cons_succ, List.setIfInBounds_toArray, List.set_cons_zero, List.set_cons_succ]
      exact wpAnyH_done (by kernel_rfl) ⟨N8, rfl, rfl, CBlk.setRow (Y := X) B8.out, hHeld⟩ _
    refine AllReadyH.cons rfl (fun K hK => ?_) AllReadyH.nil
    refine if_wanted rfl ?_
    go_simp
    have bn : CBlk (D0.alloc (.cells #[.int .u8 0, .int .i16 0, .int .u8 0, .int .i16 0, .int .u8 0, .int .i16 0, .int .u8 0, .int .i16 0, .int .u8 0, .int .i16 0, .int .u8 0, .int .i16 0, .int .u8 0, .int .i16 0, .int .u8 0, .int .i16 0, .int .u8 0, .int .i16 0, .int .u8 0, .int .i16 0, .int .u8 0, .int .i16 0, .int .u8 0, .int .i16 0] 31)) D0.heap.size 31 noB := CBlk.new' rfl rfl
    have hn : w1.heap.size ≤ D0.heap.size := hHeld.size
    have hH2 : Below w1.heap.size w1 (D0.alloc (.cells #[.int .u8 0, .int .i16 0, .int .u8 0, .int .i16 0, .int .u8 0, .int .i16 0, .int .u8 0, .int .i16 0, .int .u8 0, .int .i16 0, .int .u8 0, .int .i16 0, .int .u8 0, .int .i16 0, .int .u8 0, .int .i16 0, .int .u8 0, .int .i16 0, .int .u8 0, .int .i16 0, .int .u8 0, .int .i16 0, .int .u8 0, .int .i16 0] 31)) := hHeld.alloc hHeld.size _
    obtain ⟨x10, hx⟩ : ∃ x, D0.alloc (.cells #[.int .u8 0, .int .i16 0, .int .u8 0, .int .i16 0, .int .u8 0, .int .i16 0, .int .u8 0, .int .i16 0, .int .u8 0, .int .i16 0, .int .u8 0, .int .i16 0, .int .u8 0, .int .i16 0, .int .u8 0, .int .i16 0, .int .u8 0, .int .i16 0, .int .u8 0, .int .i16 0, .int .u8 0, .int .i16 0, .int .u8 0, .int .i16 0] 31) = x := ⟨_, rfl⟩
    obtain ⟨N8, hN⟩ : ∃ N, D0.heap.size = N := ⟨_, rfl⟩
    rw [hx] at hH2 bn ⊢
    rw [hN] at hn bn ⊢
    have B8 := Lib.hid bn
    have H8 := Lib.hid hn
    clear bn hn hx hN hHeld
    refine hK.out _ _ hH2 (fun hHeld => ?_)
    clear hK K hH2
    try simp only [Act.put, List.getElem_toArray, List.getElem_cons_zero, List.getElem_cons_succ, List.setIfInBounds_toArray, List.set_cons_zero, List.set_cons_succ]
    refine wpAnyH_ready (rs := [1]) (by kernel_rfl) (by simp) ?_
    refine AllReadyH.cons rfl (fun K hK => ?_) AllReadyH.nil
    refine if_wanted rfl ?_
    go_simp
    refine (toCrate_any bs HW.out.1 _).mono ?_
    rintro e x11 ⟨rfl, hb⟩
    have hH2 : Below w1.heap.size w1 x11 := hHeld.trans (hb.mono hHeld.size)
    have C8 : Hid (CBlk x11 N8 31 noB) := B8.out.below hb B8.out.lt
    clear B8
    have B8 := C8
    clear C8
    clear hb hHeld
    dsimp only
    refine hK.out _ _ hH2 (fun hHeld => ?_)
    clear hK K hH2
    try simp only [Act.put, List.getElem_toArray, List.getElem_cons_zero, List.getElem_cons_succ, List.setIfInBounds_toArray, List.set_cons_zero, List.set_cons_succ]
    refine wpAnyH_ready (rs := [3]) (by kernel_rfl) (by simp) ?_
    refine AllReadyH.cons rfl (fun K hK => ?_) AllReadyH.nil
    refine if_wanted rfl ?_
    go_simp
    refine (toSwap_any (x, y) _).mono ?_
    rintro e x12 ⟨rfl, hb⟩
    have hH2 : Below w1.heap.size w1 x12 := hHeld.trans (hb.mono hHeld.size)
    have C8 : Hid (CBlk x12 N8 31 noB) := B8.out.below hb B8.out.lt
    clear B8
    have B8 := C8
    clear C8
    clear hb hHeld
    dsimp only
    refine hK.out _ _ hH2 (fun hHeld => ?_)
    clear hK K hH2
    try simp only [Act.put, List.getElem_toArray, List.getElem_cons_zero, List.getElem_cons_succ, List.setIfInBounds_toArray, List.set_cons_zero, List.set_cons_succ]
    refine wpAnyH_ready (rs := [4]) (by kernel_rfl) (by simp) ?_
    refine AllReadyH.cons rfl (fun K hK => ?_) AllReadyH.nil
    refine if_wanted rfl ?_
    go_simp
    refine (HI.out ad _ (HE.out.below (I3.out.trans (hHeld.mono I3.out.size)) (Nat.le_refl _))).mono ?_
    rintro e x13 ⟨rfl, hb⟩
    have hH2 : Below w1.heap.size w1 x13 := hHeld.trans (hb.mono hHeld.size)
    have C8 : Hid (CBlk x13 N8 31 noB) := B8.out.below hb B8.out.lt
    clear B8
    have B8 := C8
    clear C8
    clear hb hHeld
    dsimp only
    refine hK.out _ _ hH2 (fun hHeld => ?_)
    clear hK K hH2
    try simp only [Act.put, List.getElem_toArray, List.getElem_cons_zero, List.getElem_cons_succ, List.setIfInBounds_toArray, List.set_cons_zero, List.set_cons_succ]
    refine wpAnyH_take (i := 5) (v := .tuple #[.agg (ccells X).toArray, .int .i64 c]) rfl (by kernel_rfl) (by kernel_rfl) (by kernel_rfl) (fun _ _ _ ⟨_, h, _⟩ => nomatch h) (Or.inl ⟨by rfl, fun w' h => by go_simp⟩) (by assumption) ?_
    try simp only [Act.put, List.getElem_toArray, List.getElem_cons_zero, List.getElem_cons_succ, List.setIfInBounds_toArray, List.set_cons_zero, List.set_cons_succ]
    refine wpAnyH_take (i := 6) (v := .agg (ccells X).toArray) rfl (by kernel_rfl) (by kernel_rfl) (by kernel_rfl) (fun _ _ _ ⟨_, h, _⟩ => nomatch h) (Or.inl ⟨by rfl, fun w' h => by go_simp⟩) (by assumption) ?_
    try simp only [Act.put, List.getElem_toArray, List.getElem_cons_zero, List.getElem_cons_succ, List.setIfInBounds_toArray, List.set_cons_zero, List.set_cons_succ]
    refine wpAnyH_take (i := 7) (v := .int .i64 c) rfl (by kernel_rfl) (by kernel_rfl) (by kernel_rfl) (fun _ _ _ ⟨_, h, _⟩ => nomatch h) (Or.inl ⟨by rfl, fun w' h => by go_simp⟩) (by assumption) ?_
    try simp only [Act.put, List.getElem_toArray, List.getElem_cons_zero, List.getElem_cons_succ, List.setIfInBounds_toArray, List.set_cons_zero, List.set_cons_succ]
    refine wpAnyH_ready (rs := [9]) (by kernel_rfl) (by simp) ?_
    refine AllReadyH.cons rfl (fun K hK => ?_) AllReadyH.nil
    refine if_wanted rfl (wp_store_row 31 (.tmp 7) (.tmp 23) rfl N8 (ccells X).toArray rfl rfl 31 _ B8.out (size_of_crate Tryd.sizeCr _ HX.out.1) (by show (ccells noB).toArray.size = _; rw [ccells_size _ HX.out.1]; rfl) (ccells_one _) ?_)
    refine hK.out _ _ (Below.setRow hHeld _ _ H8.out) (fun hHeld => ?_)
    clear hK K
    try simp only [Act.put, List.getElem_toArray, List.getElem_cons_zero, List.getElem_cons_succ, List.setIfInBounds_toArray, List.set_cons_zero, List.set_cons_succ]
    refine wpAnyH_ready (rs := [10]) (by kernel_rfl) (by simp) ?_
    refine AllReadyH.cons rfl (fun K hK => ?_) AllReadyH.nil
    refine if_wanted rfl ?_
    refine wp_assign0 rfl rfl ?_
    refine hK.out _ _ hHeld (fun hHeld => ?_)
    clear hK K
    try simp only [Act.put, List.getElem_toArray, List.getElem_cons_zero, List.getElem_cons_succ, List.setIfInBounds_toArray, List.set_cons_zero, List.set_cons_succ]
    exact wpAnyH_done (by kernel_rfl) ⟨N8, rfl, rfl, CBlk.setRow (Y := X) B8.out, hHeld⟩ _
  rintro e a' w2 ⟨B3, rfl, rfl, hC, hb⟩
  have D1 : Hid (CBlk w2 B1 31 X) := C1.out.below hb C1.out.lt
  have D3 := Lib.hid hC
  have J3 : Hid (Below w.heap.size w w2) := I3.out.trans (hb.mono I3.out.size)
  clear hC hb
  go_wp2_with (first
    | (refine wpList_load_row rfl 31 (.tmp 7) rfl B3 rfl 31 _ (0, 0) _ D3.out Tryd.underlying31 rfl (size_of_crate Tryd.sizeCr _ HX.out.1) ?_)
    | (refine wpList_load_row rfl 31 (.tmp 5) rfl B1 rfl 31 _ (0, 0) _ D1.out Tryd.underlying31 rfl (size_of_crate Tryd.sizeCr _ HX.out.1) ?_))
  refine (eqCrate_same X HX.out _).mono ?_
  rintro e w5 ⟨rfl, hb5⟩
  have H5 : Hid (Below w.heap.size w w5) := J3.out.trans (hb5.mono J3.out.size)
  clear hb5
  go_wp2
  go_ret
  exact ⟨rfl, H5.out⟩

end Go.Proofs.YtidfddemcjjgdaaDoor
