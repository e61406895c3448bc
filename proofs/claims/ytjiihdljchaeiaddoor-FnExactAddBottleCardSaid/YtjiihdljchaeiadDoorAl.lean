/-
  FnExactAddBottle: for every crate and bottle the law returns true, and its arguments read as before. No condition but that the sentinel errors hold what the program's text lays (tied).
-/
import Derived.Test.YtjiihdljchaeiadDoorCards
import Derived.Test.YtjiihdljchaeiadDoorTie
import Derived.Test.YtjiihdljchaeiadDoorG
import Derived.Test.YtjiihdljchaeiadDoorR
import Derived.Test.YtjiihdljchaeiadDoorAb
import Derived.SevenTiedAt
namespace Go.Proofs.YtjiihdljchaeiadDoor
open Go.ChangeShapes Go.WideShapes Go.ChangeAt Go.RowKit Go.Deep

theorem Tryd.sizeLc : (Tryd.prog.info? 25).map (·.size) = some 24 := by kernel_rfl
theorem Tryd.sizeLb : (Tryd.prog.info? 24).map (·.size) = some 2 := by kernel_rfl
set_option maxRecDepth 100000 in
set_option maxHeartbeats 24000000 in
theorem addLaw_gen (bs : List Bot) (hwf : WfC bs) (p q a : Int) (Y : List Bot) (hY : WfC Y) (c : Int)
    (hS : ∀ w, Calls Tryd.prog 15 #[.agg (ccells bs).toArray, .agg #[.int .u8 p, .int .i16 q]] w fun e w' => e = .returned (.tuple #[.agg (ccells Y).toArray, .int .i64 a, .int .i64 c]) ∧ Below w.heap.size w w')
    (hI : ∀ ad w, EW 7 w ad → Calls Tryd.prog 16 #[.agg (ccells bs).toArray, .agg #[.int .u8 p, .int .i16 q]] w fun e w' => e = .returned (.tuple #[.agg (ccells Y).toArray, .int .i64 a, .int .i64 c]) ∧ Below w.heap.size w w')
    (ad : Nat → Addr) (w : World) (hE : EW 7 w ad) : Calls Tryd.prog 5 #[.agg (ccells bs).toArray, .agg #[.int .u8 p, .int .i16 q]] w (Good w) := by
  have HW := Lib.hid hwf
  have HE := Lib.hid hE
  have HY2 := Lib.hid hY
  have HS := Lib.hid hS
  have HI := Lib.hid hI
  clear hwf hE hY hS hI
  have h1 : CBlk ((w.alloc (.cells (ccells bs).toArray 25)).alloc (.cells #[.int .u8 p, .int .i16 q] 24)) w.heap.size 25 bs := (CBlk.new w 25 bs).alloc _
  have h2 : CBlk ((w.alloc (.cells (ccells bs).toArray 25)).alloc (.cells #[.int .u8 p, .int .i16 q] 24)) (w.heap.size + 1) 24 [(p, q)] := CBlk.new' (by simp) rfl
  have h3 : Below w.heap.size w ((w.alloc (.cells (ccells bs).toArray 25)).alloc (.cells #[.int .u8 p, .int .i16 q] 24)) := (by repeat (first | exact Below.refl _ _ | refine Below.drew ?_ | refine Below.alloc ?_ (by simp <;> omega) _ | refine Below.setCell ?_ (by simp <;> omega) _))
  go_enter Tryd.func5, Tryd.ntmps5
  go_wp2_with fail
  obtain ⟨W0, hW0⟩ : ∃ W0, (w.alloc (.cells (ccells bs).toArray 25)).alloc (.cells #[.int .u8 p, .int .i16 q] 24) = W0 := ⟨_, rfl⟩
  rw [hW0] at h1 h2 h3 ⊢
  have G1 := Lib.hid h1
  have G2 := Lib.hid h2
  have G3 := Lib.hid h3
  clear h1 h2 h3 hW0
  refine Code.wp_mono (Q := fun e a' w' => ∃ B, e = .normal ∧ a' = { tmps := #[.agg (ccells bs).toArray, .agg #[.int .u8 p, .int .i16 q], .pointer (some ⟨w.heap.size, 0, none⟩), .pointer (some ⟨w.heap.size + 1, 0, none⟩), .bool false, .pointer (some ⟨B, 0, none⟩), .int .i64 a, .int .i64 c, undef, undef, undef, .tuple #[.agg (ccells Y).toArray, .int .i64 a, .int .i64 c], .agg (ccells bs).toArray, .agg (ccells bs).toArray, .agg #[.int .u8 p, .int .i16 q], .agg #[.int .u8 p, .int .i16 q], .tuple #[.agg (ccells Y).toArray, .int .i64 a, .int .i64 c], .agg (ccells Y).toArray, .int .i64 a, .int .i64 c, undef, undef, undef, undef, undef, undef, undef, undef, undef, undef, undef, undef, undef, undef, undef, undef, undef, undef, undef, undef, undef, undef, undef], defers := [] } ∧ CBlk w' B 28 Y ∧ W0.heap.size ≤ B ∧ Below W0.heap.size W0 w') ?_ ?_
  rotate_left
  · skip
    refine wp_region_held_drew (S := fun w' => Below W0.heap.size W0 w') (by kernel_rfl) (Below.refl _ _).drew (fun hHeld => ?_)
    refine' wpAnyH_take (i := 0) (v := _) rfl (by kernel_rfl) (by kernel_rfl) (by kernel_rfl) (fun _ _ _ ⟨_, h, _⟩ => nomatch h) (yieldsIf_load_mid (by rfl) 25 (.tmp 2) rfl w.heap.size 0 rfl (ccells bs) _ (fun w h => CBlk.range (G1.out.below h G1.out.lt)) Tryd.underlying25 rfl (size_of_crate Tryd.sizeLc _ HW.out.1)) (by assumption) ?_
    try simp only [Act.put, List.getElem_toArray, List.getElem_cons_zero, List.getElem_cons_succ, List.setIfInBounds_toArray, List.set_cons_zero, List.set_cons_succ]
    refine' wpAnyH_take (i := 2) (v := _) rfl (by kernel_rfl) (by kernel_rfl) (by kernel_rfl) (fun _ _ _ ⟨_, h, _⟩ => nomatch h) (yieldsIf_load_mid (by rfl) 24 (.tmp 3) rfl (w.heap.size + 1) 0 rfl [.int .u8 p, .int .i16 q] _ (fun w h => CBlk.range (X := [(p, q)]) (G2.out.below h G2.out.lt)) Tryd.underlying24 rfl (size_of_bot Tryd.sizeLb (p, q))) (by assumption) ?_
    try simp only [Act.put, List.getElem_toArray, List.getElem_cons_zero, List.getElem_cons_succ, List.setIfInBounds_toArray, List.set_cons_zero, List.set_cons_succ]
    obtain ⟨D0, hD0⟩ : ∃ D0, W0.drew = D0 := ⟨_, rfl⟩
    rw [hD0] at hHeld ⊢
    clear hD0
    refine wpAnyH_ready (rs := [1, 9]) (by kernel_rfl) (by simp) ?_
    refine AllReadyH.cons rfl (fun K hK => ?_) ?_
    · skip
      refine if_wanted rfl ?_
      go_simp
      refine (toCrate_any bs HW.out.1 _).mono ?_
      rintro e x1 ⟨rfl, hb⟩
      have hH2 : Below W0.heap.size W0 x1 := hHeld.trans (hb.mono hHeld.size)
      clear hb hHeld
      dsimp only
      refine hK.out _ _ hH2 (fun hHeld => ?_)
      clear hK K hH2
      try simp only [Act.put, List.getElem_toArray, List.getElem_cons_zero, List.getElem_cons_succ, List.setIfInBounds_toArray, List.set_cons_zero, List.set_cons_succ]
      refine wpAnyH_ready (rs := [3, 9]) (by kernel_rfl) (by simp) ?_
      refine AllReadyH.cons rfl (fun K hK => ?_) ?_
      · skip
        refine if_wanted rfl ?_
        go_simp
        refine (toBottle_any p q _).mono ?_
        rintro e x2 ⟨rfl, hb⟩
        have hH2 : Below W0.heap.size W0 x2 := hHeld.trans (hb.mono hHeld.size)
        clear hb hHeld
        dsimp only
        refine hK.out _ _ hH2 (fun hHeld => ?_)
        clear hK K hH2
        try simp only [Act.put, List.getElem_toArray, List.getElem_cons_zero, List.getElem_cons_succ, List.setIfInBounds_toArray, List.set_cons_zero, List.set_cons_succ]
        refine wpAnyH_ready (rs := [4, 9]) (by kernel_rfl) (by simp) ?_
        refine AllReadyH.cons rfl (fun K hK => ?_) ?_
        · skip
          refine if_wanted rfl ?_
          go_simp
          refine (HS.out _).mono ?_
          rintro e x3 ⟨rfl, hb⟩
          have hH2 : Below W0.heap.size W0 x3 := hHeld.trans (hb.mono hHeld.size)
          clear hb hHeld
          dsimp only
          refine hK.out _ _ hH2 (fun hHeld => ?_)
          clear hK K hH2
          try simp only [Act.put, List.getElem_toArray, List.getElem_cons_zero, List.getElem_cons_succ, List.setIfInBounds_toArray, List.set_cons_zero, List.set_cons_succ]
          refine wpAnyH_take (i := 5) (v := .tuple #[.agg (ccells Y).toArray, .int .i64 a, .int .i64 c]) rfl (by kernel_rfl) (by kernel_rfl) (by kernel_rfl) (fun _ _ _ ⟨_, h, _⟩ => nomatch h) (Or.inl ⟨by rfl, fun w _ => by go_simp⟩) (by assumption) ?_
          try simp only [Act.put, List.getElem_toArray, List.getElem_cons_zero, List.getElem_cons_succ, List.setIfInBounds_toArray, List.set_cons_zero, List.set_cons_succ]
          refine wpAnyH_take (i := 6) (v := .agg (ccells Y).toArray) rfl (by kernel_rfl) (by kernel_rfl) (by kernel_rfl) (fun _ _ _ ⟨_, h, _⟩ => nomatch h) (Or.inl ⟨by rfl, fun w _ => by go_simp⟩) (by assumption) ?_
          try simp only [Act.put, List.getElem_toArray, List.getElem_cons_zero, List.getElem_cons_succ, List.setIfInBounds_toArray, List.set_cons_zero, List.set_cons_succ]
          refine wpAnyH_take (i := 7) (v := .int .i64 a) rfl (by kernel_rfl) (by kernel_rfl) (by kernel_rfl) (fun _ _ _ ⟨_, h, _⟩ => nomatch h) (Or.inl ⟨by rfl, fun w _ => by go_simp⟩) (by assumption) ?_
          try simp only [Act.put, List.getElem_toArray, List.getElem_cons_zero, List.getElem_cons_succ, List.setIfInBounds_toArray, List.set_cons_zero, List.set_cons_succ]
          refine wpAnyH_take (i := 8) (v := .int .i64 c) rfl (by kernel_rfl) (by kernel_rfl) (by kernel_rfl) (fun _ _ _ ⟨_, h, _⟩ => nomatch h) (Or.inl ⟨by rfl, fun w _ => by go_simp⟩) (by assumption) ?_
          try simp only [Act.put, List.getElem_toArray, List.getElem_cons_zero, List.getElem_cons_succ, List.setIfInBounds_toArray, List.set_cons_zero, List.set_cons_succ]
          refine wpAnyH_ready (rs := [9]) (by kernel_rfl) (by simp) ?_
          refine AllReadyH.cons rfl (fun K hK => ?_) AllReadyH.nil
          refine if_wanted rfl ?_
          go_simp
          have bn : CBlk (x3.alloc (.cells #[.int .u8 0, .int .i16 0, .int .u8 0, .int .i16 0, .int .u8 0, .int .i16 0, .int .u8 0, .int .i16 0, .int .u8 0, .int .i16 0, .int .u8 0, .int .i16 0, .int .u8 0, .int .i16 0, .int .u8 0, .int .i16 0, .int .u8 0, .int .i16 0, .int .u8 0, .int .i16 0, .int .u8 0, .int .i16 0, .int .u8 0, .int .i16 0] 28)) x3.heap.size 28 noB := CBlk.new' rfl rfl
          have hn : W0.heap.size ≤ x3.heap.size := hHeld.size
          have hH2 : Below W0.heap.size W0 (x3.alloc (.cells #[.int .u8 0, .int .i16 0, .int .u8 0, .int .i16 0, .int .u8 0, .int .i16 0, .int .u8 0, .int .i16 0, .int .u8 0, .int .i16 0, .int .u8 0, .int .i16 0, .int .u8 0, .int .i16 0, .int .u8 0, .int .i16 0, .int .u8 0, .int .i16 0, .int .u8 0, .int .i16 0, .int .u8 0, .int .i16 0, .int .u8 0, .int .i16 0] 28)) := hHeld.alloc hHeld.size _
          obtain ⟨x4, hx⟩ : ∃ x, x3.alloc (.cells #[.int .u8 0, .int .i16 0, .int .u8 0, .int .i16 0, .int .u8 0, .int .i16 0, .int .u8 0, .int .i16 0, .int .u8 0, .int .i16 0, .int .u8 0, .int .i16 0, .int .u8 0, .int .i16 0, .int .u8 0, .int .i16 0, .int .u8 0, .int .i16 0, .int .u8 0, .int .i16 0, .int .u8 0, .int .i16 0, .int .u8 0, .int .i16 0] 28) = x := ⟨_, rfl⟩
          obtain ⟨N, hN⟩ : ∃ N, x3.heap.size = N := ⟨_, rfl⟩
          rw [hx] at hH2 bn ⊢
          rw [hN] at hn bn ⊢
          have BN := Lib.hid bn
          have HN := Lib.hid hn
          clear bn hn hx hN hHeld
          refine hK.out _ _ hH2 (fun hHeld => ?_)
          clear hK K hH2
          try simp only [Act.put, List.getElem_toArray, List.getElem_cons_zero, List.getElem_cons_succ, List.setIfInBounds_toArray, List.set_cons_zero, List.set_cons_succ]
          refine wpAnyH_ready (rs := [10]) (by kernel_rfl) (by simp) ?_
          refine AllReadyH.cons rfl (fun K hK => ?_) AllReadyH.nil
          refine if_wanted rfl (wp_store_row 28 (.tmp 5) (.tmp 17) rfl N (ccells Y).toArray rfl rfl 28 _ BN.out (size_of_crate Tryd.sizeCr _ HY2.out.1) (by show (ccells noB).toArray.size = _; rw [ccells_size _ HY2.out.1]; rfl) (ccells_one _) ?_)
          refine hK.out _ _ (Below.setRow hHeld _ _ HN.out) (fun hHeld => ?_)
          clear hK K
          try simp only [Act.put, List.getElem_toArray, List.getElem_cons_zero, List.getElem_cons_succ, List.setIfInBounds_toArray, List.set_cons_zero, List.set_cons_succ]
          refine wpAnyH_ready (rs := [11]) (by kernel_rfl) (by simp) ?_
          refine AllReadyH.cons rfl (fun K hK => ?_) AllReadyH.nil
          refine if_wanted rfl ?_
          refine wp_assign0 rfl rfl ?_
          refine hK.out _ _ hHeld (fun hHeld => ?_)
          clear hK K
          try simp only [Act.put, List.getElem_toArray, List.getElem_cons_zero, List.getElem_cons_succ, List.setIfInBounds_toArray, List.set_cons_zero, List.set_cons_succ]
          refine wpAnyH_ready (rs := [12]) (by kernel_rfl) (by simp) ?_
          refine AllReadyH.cons rfl (fun K hK => ?_) AllReadyH.nil
          refine if_wanted rfl ?_
          refine wp_assign0 rfl rfl ?_
          refine hK.out _ _ hHeld (fun hHeld => ?_)
          clear hK K
          try simp only [Act.put, List.getElem_toArray, List.getElem_cons_zero, List.getElem_cons_succ, List.setIfInBounds_toArray, List.set_cons_zero, List.set_cons_succ]
          exact wpAnyH_done (by kernel_rfl) ⟨N, rfl, rfl, CBlk.setRow (Y := Y) BN.out, HN.out, hHeld⟩ _
        refine AllReadyH.cons rfl (fun K hK => ?_) AllReadyH.nil
        refine if_wanted rfl ?_
        go_simp
        have bn : CBlk (x2.alloc (.cells #[.int .u8 0, .int .i16 0, .int .u8 0, .int .i16 0, .int .u8 0, .int .i16 0, .int .u8 0, .int .i16 0, .int .u8 0, .int .i16 0, .int .u8 0, .int .i16 0, .int .u8 0, .int .i16 0, .int .u8 0, .int .i16 0, .int .u8 0, .int .i16 0, .int .u8 0, .int .i16 0, .int .u8 0, .int .i16 0, .int .u8 0, .int .i16 0] 28)) x2.heap.size 28 noB := CBlk.new' rfl rfl
        have hn : W0.heap.size ≤ x2.heap.size := hHeld.size
        have hH2 : Below W0.heap.size W0 (x2.alloc (.cells #[.int .u8 0, .int .i16 0, .int .u8 0, .int .i16 0, .int .u8 0, .int .i16 0, .int .u8 0, .int .i16 0, .int .u8 0, .int .i16 0, .int .u8 0, .int .i16 0, .int .u8 0, .int .i16 0, .int .u8 0, .int .i16 0, .int .u8 0, .int .i16 0, .int .u8 0, .int .i16 0, .int .u8 0, .int .i16 0, .int .u8 0, .int .i16 0] 28)) := hHeld.alloc hHeld.size _
        obtain ⟨x5, hx⟩ : ∃ x, x2.alloc (.cells #[.int .u8 0, .int .i16 0, .int .u8 0, .int .i16 0, .int .u8 0, .int .i16 0, .int .u8 0, .int .i16 0, .int .u8 0, .int .i16 0, .int .u8 0, .int .i16 0, .int .u8 0, .int .i16 0, .int .u8 0, .int .i16 0, .int .u8 0, .int .i16 0, .int .u8 0, .int .i16 0, .int .u8 0, .int .i16 0, .int .u8 0, .int .i16 0] 28) = x := ⟨_, rfl⟩
        obtain ⟨N, hN⟩ : ∃ N, x2.heap.size = N := ⟨_, rfl⟩
        rw [hx] at hH2 bn ⊢
        rw [hN] at hn bn ⊢
        have BN := Lib.hid bn
        have HN := Lib.hid hn
        clear bn hn hx hN hHeld
        refine hK.out _ _ hH2 (fun hHeld => ?_)
        clear hK K hH2
        try simp only [Act.put, List.getElem_toArray, List.getElem_cons_zero, List.getElem_cons_succ, List.setIfInBounds_toArray, List.set_cons_zero, List.set_cons_succ]
        refine wpAnyH_ready (rs := [4]) (by kernel_rfl) (by simp) ?_
        refine AllReadyH.cons rfl (fun K hK => ?_) AllReadyH.nil
        refine if_wanted rfl ?_
        go_simp
        refine (HS.out _).mono ?_
        rintro e x6 ⟨rfl, hb⟩
        have hH2 : Below W0.heap.size W0 x6 := hHeld.trans (hb.mono hHeld.size)
        have BN2 : Hid (CBlk x6 N 28 noB) := BN.out.below hb BN.out.lt
        clear BN
        have BN := BN2
        clear BN2
        clear hb hHeld
        dsimp only
        refine hK.out _ _ hH2 (fun hHeld => ?_)
        clear hK K hH2
        try simp only [Act.put, List.getElem_toArray, List.getElem_cons_zero, List.getElem_cons_succ, List.setIfInBounds_toArray, List.set_cons_zero, List.set_cons_succ]
        refine wpAnyH_take (i := 5) (v := .tuple #[.agg (ccells Y).toArray, .int .i64 a, .int .i64 c]) rfl (by kernel_rfl) (by kernel_rfl) (by kernel_rfl) (fun _ _ _ ⟨_, h, _⟩ => nomatch h) (Or.inl ⟨by rfl, fun w _ => by go_simp⟩) (by assumption) ?_
        try simp only [Act.put, List.getElem_toArray, List.getElem_cons_zero, List.getElem_cons_succ, List.setIfInBounds_toArray, List.set_cons_zero, List.set_cons_succ]
        refine wpAnyH_take (i := 6) (v := .agg (ccells Y).toArray) rfl (by kernel_rfl) (by kernel_rfl) (by kernel_rfl) (fun _ _ _ ⟨_, h, _⟩ => nomatch h) (Or.inl ⟨by rfl, fun w _ => by go_simp⟩) (by assumption) ?_
        try simp only [Act.put, List.getElem_toArray, List.getElem_cons_zero, List.getElem_cons_succ, List.setIfInBounds_toArray, List.set_cons_zero, List.set_cons_succ]
        refine wpAnyH_take (i := 7) (v := .int .i64 a) rfl (by kernel_rfl) (by kernel_rfl) (by kernel_rfl) (fun _ _ _ ⟨_, h, _⟩ => nomatch h) (Or.inl ⟨by rfl, fun w _ => by go_simp⟩) (by assumption) ?_
        try simp only [Act.put, List.getElem_toArray, List.getElem_cons_zero, List.getElem_cons_succ, List.setIfInBounds_toArray, List.set_cons_zero, List.set_cons_succ]
        refine wpAnyH_take (i := 8) (v := .int .i64 c) rfl (by kernel_rfl) (by kernel_rfl) (by kernel_rfl) (fun _ _ _ ⟨_, h, _⟩ => nomatch h) (Or.inl ⟨by rfl, fun w _ => by go_simp⟩) (by assumption) ?_
        try simp only [Act.put, List.getElem_toArray, List.getElem_cons_zero, List.getElem_cons_succ, List.setIfInBounds_toArray, List.set_cons_zero, List.set_cons_succ]
        refine wpAnyH_ready (rs := [10]) (by kernel_rfl) (by simp) ?_
        refine AllReadyH.cons rfl (fun K hK => ?_) AllReadyH.nil
        refine if_wanted rfl (wp_store_row 28 (.tmp 5) (.tmp 17) rfl N (ccells Y).toArray rfl rfl 28 _ BN.out (size_of_crate Tryd.sizeCr _ HY2.out.1) (by show (ccells noB).toArray.size = _; rw [ccells_size _ HY2.out.1]; rfl) (ccells_one _) ?_)
        refine hK.out _ _ (Below.setRow hHeld _ _ HN.out) (fun hHeld => ?_)
        clear hK K
        try simp only [Act.put, List.getElem_toArray, List.getElem_cons_zero, List.getElem_cons_succ, List.setIfInBounds_toArray, List.set_cons_zero, List.set_cons_succ]
        refine wpAnyH_ready (rs := [11]) (by kernel_rfl) (by simp) ?_
        refine AllReadyH.cons rfl (fun K hK => ?_) AllReadyH.nil
        refine if_wanted rfl ?_
        refine wp_assign0 rfl rfl ?_
        refine hK.out _ _ hHeld (fun hHeld => ?_)
        clear hK K
        try simp only [Act.put, List.getElem_toArray, List.getElem_cons_zero, List.getElem_cons_succ, List.setIfInBounds_toArray, List.set_cons_zero, List.set_cons_succ]
        refine wpAnyH_ready (rs := [12]) (by kernel_rfl) (by simp) ?_
        refine AllReadyH.cons rfl (fun K hK => ?_) AllReadyH.nil
        refine if_wanted rfl ?_
        refine wp_assign0 rfl rfl ?_
        refine hK.out _ _ hHeld (fun hHeld => ?_)
        clear hK K
        try simp only [Act.put, List.getElem_toArray, List.getElem_cons_zero, List.getElem_cons_succ, List.setIfInBounds_toArray, List.set_cons_zero, List.set_cons_succ]
        exact wpAnyH_done (by kernel_rfl) ⟨N, rfl, rfl, CBlk.setRow (Y := Y) BN.out, HN.out, hHeld⟩ _
      refine AllReadyH.cons rfl (fun K hK => ?_) AllReadyH.nil
      refine if_wanted rfl ?_
      go_simp
      have bn : CBlk (x1.alloc (.cells #[.int .u8 0, .int .i16 0, .int .u8 0, .int .i16 0, .int .u8 0, .int .i16 0, .int .u8 0, .int .i16 0, .int .u8 0, .int .i16 0, .int .u8 0, .int .i16 0, .int .u8 0, .int .i16 0, .int .u8 0, .int .i16 0, .int .u8 0, .int .i16 0, .int .u8 0, .int .i16 0, .int .u8 0, .int .i16 0, .int .u8 0, .int .i16 0] 28)) x1.heap.size 28 noB := CBlk.new' rfl rfl
      have hn : W0.heap.size ≤ x1.heap.size := hHeld.size
      have hH2 : Below W0.heap.size W0 (x1.alloc (.cells #[.int .u8 0, .int .i16 0, .int .u8 0, .int .i16 0, .int .u8 0, .int .i16 0, .int .u8 0, .int .i16 0, .int .u8 0, .int .i16 0, .int .u8 0, .int .i16 0, .int .u8 0, .int .i16 0, .int .u8 0, .int .i16 0, .int .u8 0, .int .i16 0, .int .u8 0, .int .i16 0, .int .u8 0, .int .i16 0, .int .u8 0, .int .i16 0] 28)) := hHeld.alloc hHeld.size _
      obtain ⟨x7, hx⟩ : ∃ x, x1.alloc (.cells #[.int .u8 0, .int .i16 0, .int .u8 0, .int .i16 0, .int .u8 0, .int .i16 0, .int .u8 0, .int .i16 0, .int .u8 0, .int .i16 0, .int .u8 0, .int .i16 0, .int .u8 0, .int .i16 0, .int .u8 0, .int .i16 0, .int .u8 0, .int .i16 0, .int .u8 0, .int .i16 0, .int .u8 0, .int .i16 0, .int .u8 0, .int .i16 0] 28) = x := ⟨_, rfl⟩
      obtain ⟨N, hN⟩ : ∃ N, x1.heap.size = N := ⟨_, rfl⟩
      rw [hx] at hH2 bn ⊢
      rw [hN] at hn bn ⊢
      have BN := Lib.hid bn
      have HN := Lib.hid hn
      clear bn hn hx hN hHeld
      refine hK.out _ _ hH2 (fun hHeld => ?_)
      clear hK K hH2
      try simp only [Act.put, List.getElem_toArray, List.getElem_cons_zero, List.getElem_cons_succ, List.setIfInBounds_toArray, List.set_cons_zero, List.set_cons_succ]
      refine wpAnyH_ready (rs := [3]) (by kernel_rfl) (by simp) ?_
      refine AllReadyH.cons rfl (fun K hK => ?_) AllReadyH.nil
      refine if_wanted rfl ?_
      go_simp
      refine (toBottle_any p q _).mono ?_
      rintro e x8 ⟨rfl, hb⟩
      have hH2 : Below W0.heap.size W0 x8 := hHeld.trans (hb.mono hHeld.size)
      have BN2 : Hid (CBlk x8 N 28 noB) := BN.out.below hb BN.out.lt
      clear BN
      have BN := BN2
      clear BN2
      clear hb hHeld
      dsimp only
      refine hK.out _ _ hH2 (fun hHeld => ?_)
      clear hK K hH2
      try simp only [Act.put, List.getElem_toArray, List.getElem_cons_zero, List.getElem_cons_succ, List.setIfInBounds_toArray, List.set_cons_zero, List.set_cons_succ]
      refine wpAnyH_ready (rs := [4]) (by kernel_rfl) (by simp) ?_
      refine AllReadyH.cons rfl (fun K hK => ?_) AllReadyH.nil
      refine if_wanted rfl ?_
      go_simp
      refine (HS.out _).mono ?_
      rintro e x9 ⟨rfl, hb⟩
      have hH2 : Below W0.heap.size W0 x9 := hHeld.trans (hb.mono hHeld.size)
      have BN2 : Hid (CBlk x9 N 28 noB) := BN.out.below hb BN.out.lt
      clear BN
      have BN := BN2
      clear BN2
      clear hb hHeld
      dsimp only
      refine hK.out _ _ hH2 (fun hHeld => ?_)
      clear hK K hH2
      try simp only [Act.put, List.getElem_toArray, List.getElem_cons_zero, List.getElem_cons_succ, List.setIfInBounds_toArray, List.set_cons_zero, List.set_cons_succ]
      refine wpAnyH_take (i := 5) (v := .tuple #[.agg (ccells Y).toArray, .int .i64 a, .int .i64 c]) rfl (by kernel_rfl) (by kernel_rfl) (by kernel_rfl) (fun _ _ _ ⟨_, h, _⟩ => nomatch h) (Or.inl ⟨by rfl, fun w _ => by go_simp⟩) (by assumption) ?_
      try simp only [Act.put, List.getElem_toArray, List.getElem_cons_zero, List.getElem_cons_succ, List.setIfInBounds_toArray, List.set_cons_zero, List.set_cons_succ]
      refine wpAnyH_take (i := 6) (v := .agg (ccells Y).toArray) rfl (by kernel_rfl) (by kernel_rfl) (by kernel_rfl) (fun _ _ _ ⟨_, h, _⟩ => nomatch h) (Or.inl ⟨by rfl, fun w _ => by go_simp⟩) (by assumption) ?_
      try simp only [Act.put, List.getElem_toArray, List.getElem_cons_zero, List.getElem_cons_succ, List.setIfInBounds_toArray, List.set_cons_zero, List.set_cons_succ]
      refine wpAnyH_take (i := 7) (v := .int .i64 a) rfl (by kernel_rfl) (by kernel_rfl) (by kernel_rfl) (fun _ _ _ ⟨_, h, _⟩ => nomatch h) (Or.inl ⟨by rfl, fun w _ => by go_simp⟩) (by assumption) ?_
      try simp only [Act.put, List.getElem_toArray, List.getElem_cons_zero, List.getElem_cons_succ, List.setIfInBounds_toArray, List.set_cons_zero, List.set_cons_succ]
      refine wpAnyH_take (i := 8) (v := .int .i64 c) rfl (by kernel_rfl) (by kernel_rfl) (by kernel_rfl) (fun _ _ _ ⟨_, h, _⟩ => nomatch h) (Or.inl ⟨by rfl, fun w _ => by go_simp⟩) (by assumption) ?_
      try simp only [Act.put, List.getElem_toArray, List.getElem_cons_zero, List.getElem_cons_succ, List.setIfInBounds_toArray, List.set_cons_zero, List.set_cons_succ]
      refine wpAnyH_ready (rs := [10]) (by kernel_rfl) (by simp) ?_
      refine AllReadyH.cons rfl (fun K hK => ?_) AllReadyH.nil
      refine if_wanted rfl (wp_store_row 28 (.tmp 5) (.tmp 17) rfl N (ccells Y).toArray rfl rfl 28 _ BN.out (size_of_crate Tryd.sizeCr _ HY2.out.1) (by show (ccells noB).toArray.size = _; rw [ccells_size _ HY2.out.1]; rfl) (ccells_one _) ?_)
      refine hK.out _ _ (Below.setRow hHeld _ _ HN.out) (fun hHeld => ?_)
      clear hK K
      try simp only [Act.put, List.getElem_toArray, List.getElem_cons_zero, List.getElem_cons_succ, List.setIfInBounds_toArray, List.set_cons_zero, List.set_cons_succ]
      refine wpAnyH_ready (rs := [11]) (by kernel_rfl) (by simp) ?_
      refine AllReadyH.cons rfl (fun K hK => ?_) AllReadyH.nil
      refine if_wanted rfl ?_
      refine wp_assign0 rfl rfl ?_
      refine hK.out _ _ hHeld (fun hHeld => ?_)
      clear hK K
      try simp only [Act.put, List.getElem_toArray, List.getElem_cons_zero, List.getElem_cons_succ, List.setIfInBounds_toArray, List.set_cons_zero, List.set_cons_succ]
      refine wpAnyH_ready (rs := [12]) (by kernel_rfl) (by simp) ?_
      refine AllReadyH.cons rfl (fun K hK => ?_) AllReadyH.nil
      refine if_wanted rfl ?_
      refine wp_assign0 rfl rfl ?_
      refine hK.out _ _ hHeld (fun hHeld => ?_)
      clear hK K
      try simp only [Act.put, List.getElem_toArray, List.getElem_cons_zero, List.getElem_cons_succ, List.setIfInBounds_toArray, List.set_cons_zero, List.set_cons_succ]
      exact wpAnyH_done (by kernel_rfl) ⟨N, rfl, rfl, CBlk.setRow (Y := Y) BN.out, HN.out, hHeld⟩ _
    refine AllReadyH.cons rfl (fun K hK => ?_) AllReadyH.nil
    refine if_wanted rfl ?_
    go_simp
    have bn : CBlk (D0.alloc (.cells #[.int .u8 0, .int .i16 0, .int .u8 0, .int .i16 0, .int .u8 0, .int .i16 0, .int .u8 0, .int .i16 0, .int .u8 0, .int .i16 0, .int .u8 0, .int .i16 0, .int .u8 0, .int .i16 0, .int .u8 0, .int .i16 0, .int .u8 0, .int .i16 0, .int .u8 0, .int .i16 0, .int .u8 0, .int .i16 0, .int .u8 0, .int .i16 0] 28)) D0.heap.size 28 noB := CBlk.new' rfl rfl
    have hn : W0.heap.size ≤ D0.heap.size := hHeld.size
    have hH2 : Below W0.heap.size W0 (D0.alloc (.cells #[.int .u8 0, .int .i16 0, .int .u8 0, .int .i16 0, .int .u8 0, .int .i16 0, .int .u8 0, .int .i16 0, .int .u8 0, .int .i16 0, .int .u8 0, .int .i16 0, .int .u8 0, .int .i16 0, .int .u8 0, .int .i16 0, .int .u8 0, .int .i16 0, .int .u8 0, .int .i16 0, .int .u8 0, .int .i16 0, .int .u8 0, .int .i16 0] 28)) := hHeld.alloc hHeld.size _
    obtain ⟨x10, hx⟩ : ∃ x, D0.alloc (.cells #[.int .u8 0, .int .i16 0, .int .u8 0, .int .i16 0, .int .u8 0, .int .i16 0, .int .u8 0, .int .i16 0, .int .u8 0, .int .i16 0, .int .u8 0, .int .i16 0, .int .u8 0, .int .i16 0, .int .u8 0, .int .i16 0, .int .u8 0, .int .i16 0, .int .u8 0, .int .i16 0, .int .u8 0, .int .i16 0, .int .u8 0, .int .i16 0] 28) = x := ⟨_, rfl⟩
    obtain ⟨N, hN⟩ : ∃ N, D0.heap.size = N := ⟨_, rfl⟩
    rw [hx] at hH2 bn ⊢
    rw [hN] at hn bn ⊢
    have BN := Lib.hid bn
    have HN := Lib.hid hn
    clear bn hn hx hN hHeld
    refine hK.out _ _ hH2 (fun hHeld => ?_)
    clear hK K hH2
    try simp only [Act.put, List.getElem_toArray, List.getElem_cons_zero, List.getElem_cons_succ, List.setIfInBounds_toArray, List.set_cons_zero, List.set_cons_succ]
    refine wpAnyH_ready (rs := [1]) (by kernel_rfl) (by simp) ?_
    refine AllReadyH.cons rfl (fun K hK => ?_) AllReadyH.nil
    refine if_wanted rfl ?_
    go_simp
    refine (toCrate_any bs HW.out.1 _).mono ?_
    rintro e x11 ⟨rfl, hb⟩
    have hH2 : Below W0.heap.size W0 x11 := hHeld.trans (hb.mono hHeld.size)
    have BN2 : Hid (CBlk x11 N 28 noB) := BN.out.below hb BN.out.lt
    clear BN
    have BN := BN2
    clear BN2
    clear hb hHeld
    dsimp only
    refine hK.out _ _ hH2 (fun hHeld => ?_)
    clear hK K hH2
    try simp only [Act.put, List.getElem_toArray, List.getElem_cons_zero, List.getElem_cons_succ, List.setIfInBounds_toArray, List.set_cons_zero, List.set_cons_succ]
    refine wpAnyH_ready (rs := [3]) (by kernel_rfl) (by simp) ?_
    refine AllReadyH.cons rfl (fun K hK => ?_) AllReadyH.nil
    refine if_wanted rfl ?_
    go_simp
    refine (toBottle_any p q _).mono ?_
    rintro e x12 ⟨rfl, hb⟩
    have hH2 : Below W0.heap.size W0 x12 := hHeld.trans (hb.mono hHeld.size)
    have BN2 : Hid (CBlk x12 N 28 noB) := BN.out.below hb BN.out.lt
    clear BN
    have BN := BN2
    clear BN2
    clear hb hHeld
    dsimp only
    refine hK.out _ _ hH2 (fun hHeld => ?_)
    clear hK K hH2
    try simp only [Act.put, List.getElem_toArray, List.getElem_cons_zero, List.getElem_cons_succ, List.setIfInBounds_toArray, List.set_cons_zero, List.set_cons_succ]
    refine wpAnyH_ready (rs := [4]) (by kernel_rfl) (by simp) ?_
    refine AllReadyH.cons rfl (fun K hK => ?_) AllReadyH.nil
    refine if_wanted rfl ?_
    go_simp
    refine (HS.out _).mono ?_
    rintro e x13 ⟨rfl, hb⟩
    have hH2 : Below W0.heap.size W0 x13 := hHeld.trans (hb.mono hHeld.size)
    have BN2 : Hid (CBlk x13 N 28 noB) := BN.out.below hb BN.out.lt
    clear BN
    have BN := BN2
    clear BN2
    clear hb hHeld
    dsimp only
    refine hK.out _ _ hH2 (fun hHeld => ?_)
    clear hK K hH2
    try simp only [Act.put, List.getElem_toArray, List.getElem_cons_zero, List.getElem_cons_succ, List.setIfInBounds_toArray, List.set_cons_zero, List.set_cons_succ]
    refine wpAnyH_take (i := 5) (v := .tuple #[.agg (ccells Y).toArray, .int .i64 a, .int .i64 c]) rfl (by kernel_rfl) (by kernel_rfl) (by kernel_rfl) (fun _ _ _ ⟨_, h, _⟩ => nomatch h) (Or.inl ⟨by rfl, fun w _ => by go_simp⟩) (by assumption) ?_
    try simp only [Act.put, List.getElem_toArray, List.getElem_cons_zero, List.getElem_cons_succ, List.setIfInBounds_toArray, List.set_cons_zero, List.set_cons_succ]
    refine wpAnyH_take (i := 6) (v := .agg (ccells Y).toArray) rfl (by kernel_rfl) (by kernel_rfl) (by kernel_rfl) (fun _ _ _ ⟨_, h, _⟩ => nomatch h) (Or.inl ⟨by rfl, fun w _ => by go_simp⟩) (by assumption) ?_
    try simp only [Act.put, List.getElem_toArray, List.getElem_cons_zero, List.getElem_cons_succ, List.setIfInBounds_toArray, List.set_cons_zero, List.set_cons_succ]
    refine wpAnyH_take (i := 7) (v := .int .i64 a) rfl (by kernel_rfl) (by kernel_rfl) (by kernel_rfl) (fun _ _ _ ⟨_, h, _⟩ => nomatch h) (Or.inl ⟨by rfl, fun w _ => by go_simp⟩) (by assumption) ?_
    try simp only [Act.put, List.getElem_toArray, List.getElem_cons_zero, List.getElem_cons_succ, List.setIfInBounds_toArray, List.set_cons_zero, List.set_cons_succ]
    refine wpAnyH_take (i := 8) (v := .int .i64 c) rfl (by kernel_rfl) (by kernel_rfl) (by kernel_rfl) (fun _ _ _ ⟨_, h, _⟩ => nomatch h) (Or.inl ⟨by rfl, fun w _ => by go_simp⟩) (by assumption) ?_
    try simp only [Act.put, List.getElem_toArray, List.getElem_cons_zero, List.getElem_cons_succ, List.setIfInBounds_toArray, List.set_cons_zero, List.set_cons_succ]
    refine wpAnyH_ready (rs := [10]) (by kernel_rfl) (by simp) ?_
    refine AllReadyH.cons rfl (fun K hK => ?_) AllReadyH.nil
    refine if_wanted rfl (wp_store_row 28 (.tmp 5) (.tmp 17) rfl N (ccells Y).toArray rfl rfl 28 _ BN.out (size_of_crate Tryd.sizeCr _ HY2.out.1) (by show (ccells noB).toArray.size = _; rw [ccells_size _ HY2.out.1]; rfl) (ccells_one _) ?_)
    refine hK.out _ _ (Below.setRow hHeld _ _ HN.out) (fun hHeld => ?_)
    clear hK K
    try simp only [Act.put, List.getElem_toArray, List.getElem_cons_zero, List.getElem_cons_succ, List.setIfInBounds_toArray, List.set_cons_zero, List.set_cons_succ]
    refine wpAnyH_ready (rs := [11]) (by kernel_rfl) (by simp) ?_
    refine AllReadyH.cons rfl (fun K hK => ?_) AllReadyH.nil
    refine if_wanted rfl ?_
    refine wp_assign0 rfl rfl ?_
    refine hK.out _ _ hHeld (fun hHeld => ?_)
    clear hK K
    try simp only [Act.put, List.getElem_toArray, List.getElem_cons_zero, List.getElem_cons_succ, List.setIfInBounds_toArray, List.set_cons_zero, List.set_cons_succ]
    refine wpAnyH_ready (rs := [12]) (by kernel_rfl) (by simp) ?_
    refine AllReadyH.cons rfl (fun K hK => ?_) AllReadyH.nil
    refine if_wanted rfl ?_
    refine wp_assign0 rfl rfl ?_
    refine hK.out _ _ hHeld (fun hHeld => ?_)
    clear hK K
    try simp only [Act.put, List.getElem_toArray, List.getElem_cons_zero, List.getElem_cons_succ, List.setIfInBounds_toArray, List.set_cons_zero, List.set_cons_succ]
    exact wpAnyH_done (by kernel_rfl) ⟨N, rfl, rfl, CBlk.setRow (Y := Y) BN.out, HN.out, hHeld⟩ _
  rintro e a' w1 ⟨B, rfl, rfl, hC, hge, hb⟩
  have C1 := Lib.hid hC
  have C2 := Lib.hid hge
  have I1 : Hid (CBlk w1 w.heap.size 25 bs) := G1.out.below hb G1.out.lt
  have I2 : Hid (CBlk w1 (w.heap.size + 1) 24 [(p, q)]) := G2.out.below hb G2.out.lt
  have I3 : Hid (Below w.heap.size w w1) := G3.out.trans (hb.mono G3.out.size)
  clear hC hge hb
  go_wp2_with fail
  refine Code.wp_mono (Q := fun e a' w' => ∃ B2, e = .normal ∧ a' = { tmps := #[.agg (ccells bs).toArray, .agg #[.int .u8 p, .int .i16 q], .pointer (some ⟨w.heap.size, 0, none⟩), .pointer (some ⟨w.heap.size + 1, 0, none⟩), .bool false, .pointer (some ⟨B, 0, none⟩), .int .i64 a, .int .i64 c, .pointer (some ⟨B2, 0, none⟩), .int .i64 a, .int .i64 c, .tuple #[.agg (ccells Y).toArray, .int .i64 a, .int .i64 c], .agg (ccells bs).toArray, .agg (ccells bs).toArray, .agg #[.int .u8 p, .int .i16 q], .agg #[.int .u8 p, .int .i16 q], .tuple #[.agg (ccells Y).toArray, .int .i64 a, .int .i64 c], .agg (ccells Y).toArray, .int .i64 a, .int .i64 c, .tuple #[.agg (ccells Y).toArray, .int .i64 a, .int .i64 c], .agg (ccells bs).toArray, .agg (ccells bs).toArray, .agg #[.int .u8 p, .int .i16 q], .agg #[.int .u8 p, .int .i16 q], .tuple #[.agg (ccells Y).toArray, .int .i64 a, .int .i64 c], .agg (ccells Y).toArray, .int .i64 a, .int .i64 c, undef, undef, undef, undef, undef, undef, undef, undef, undef, undef, undef, undef, undef, undef], defers := [] } ∧ CBlk w' B2 28 Y ∧ w1.heap.size ≤ B2 ∧ Below w1.heap.size w1 w') ?_ ?_
  rotate_left
  · skip
    refine wp_region_held_drew (S := fun w' => Below w1.heap.size w1 w') (by kernel_rfl) (Below.refl _ _).drew (fun hHeld => ?_)
    refine' wpAnyH_take (i := 0) (v := _) rfl (by kernel_rfl) (by kernel_rfl) (by kernel_rfl) (fun _ _ _ ⟨_, h, _⟩ => nomatch h) (yieldsIf_load_mid (by rfl) 25 (.tmp 2) rfl w.heap.size 0 rfl (ccells bs) _ (fun w h => CBlk.range (I1.out.below h I1.out.lt)) Tryd.underlying25 rfl (size_of_crate Tryd.sizeLc _ HW.out.1)) (by assumption) ?_
    try simp only [Act.put, List.getElem_toArray, List.getElem_cons_zero, List.getElem_cons_succ, List.setIfInBounds_toArray, List.set_cons_zero, List.set_cons_succ]
    refine' wpAnyH_take (i := 2) (v := _) rfl (by kernel_rfl) (by kernel_rfl) (by kernel_rfl) (fun _ _ _ ⟨_, h, _⟩ => nomatch h) (yieldsIf_load_mid (by rfl) 24 (.tmp 3) rfl (w.heap.size + 1) 0 rfl [.int .u8 p, .int .i16 q] _ (fun w h => CBlk.range (X := [(p, q)]) (I2.out.below h I2.out.lt)) Tryd.underlying24 rfl (size_of_bot Tryd.sizeLb (p, q))) (by assumption) ?_
    try simp only [Act.put, List.getElem_toArray, List.getElem_cons_zero, List.getElem_cons_succ, List.setIfInBounds_toArray, List.set_cons_zero, List.set_cons_succ]
    obtain ⟨D0, hD0⟩ : ∃ D0, w1.drew = D0 := ⟨_, rfl⟩
    rw [hD0] at hHeld ⊢
    clear hD0
    refine wpAnyH_ready (rs := [1, 9]) (by kernel_rfl) (by simp) ?_
    refine AllReadyH.cons rfl (fun K hK => ?_) ?_
    · skip
      refine if_wanted rfl ?_
      go_simp
      refine (toCrate_any bs HW.out.1 _).mono ?_
      rintro e x1 ⟨rfl, hb⟩
      have hH2 : Below w1.heap.size w1 x1 := hHeld.trans (hb.mono hHeld.size)
      clear hb hHeld
      dsimp only
      refine hK.out _ _ hH2 (fun hHeld => ?_)
      clear hK K hH2
      try simp only [Act.put, List.getElem_toArray, List.getElem_cons_zero, List.getElem_cons_succ, List.setIfInBounds_toArray, List.set_cons_zero, List.set_cons_succ]
      refine wpAnyH_ready (rs := [3, 9]) (by kernel_rfl) (by simp) ?_
      refine AllReadyH.cons rfl (fun K hK => ?_) ?_
      · skip
        refine if_wanted rfl ?_
        go_simp
        refine (toBottle_any p q _).mono ?_
        rintro e x2 ⟨rfl, hb⟩
        have hH2 : Below w1.heap.size w1 x2 := hHeld.trans (hb.mono hHeld.size)
        clear hb hHeld
        dsimp only
        refine hK.out _ _ hH2 (fun hHeld => ?_)
        clear hK K hH2
        try simp only [Act.put, List.getElem_toArray, List.getElem_cons_zero, List.getElem_cons_succ, List.setIfInBounds_toArray, List.set_cons_zero, List.set_cons_succ]
        refine wpAnyH_ready (rs := [4, 9]) (by kernel_rfl) (by simp) ?_
        refine AllReadyH.cons rfl (fun K hK => ?_) ?_
        · skip
          refine if_wanted rfl ?_
          go_simp
          refine (HI.out ad _ (HE.out.below (I3.out.trans (hHeld.mono I3.out.size)) (Nat.le_refl _))).mono ?_
          rintro e x3 ⟨rfl, hb⟩
          have hH2 : Below w1.heap.size w1 x3 := hHeld.trans (hb.mono hHeld.size)
          clear hb hHeld
          dsimp only
          refine hK.out _ _ hH2 (fun hHeld => ?_)
          clear hK K hH2
          try simp only [Act.put, List.getElem_toArray, List.getElem_cons_zero, List.getElem_cons_succ, List.setIfInBounds_toArray, List.set_cons_zero, List.set_cons_succ]
          refine wpAnyH_take (i := 5) (v := .tuple #[.agg (ccells Y).toArray, .int .i64 a, .int .i64 c]) rfl (by kernel_rfl) (by kernel_rfl) (by kernel_rfl) (fun _ _ _ ⟨_, h, _⟩ => nomatch h) (Or.inl ⟨by rfl, fun w _ => by go_simp⟩) (by assumption) ?_
          try simp only [Act.put, List.getElem_toArray, List.getElem_cons_zero, List.getElem_cons_succ, List.setIfInBounds_toArray, List.set_cons_zero, List.set_cons_succ]
          refine wpAnyH_take (i := 6) (v := .agg (ccells Y).toArray) rfl (by kernel_rfl) (by kernel_rfl) (by kernel_rfl) (fun _ _ _ ⟨_, h, _⟩ => nomatch h) (Or.inl ⟨by rfl, fun w _ => by go_simp⟩) (by assumption) ?_
          try simp only [Act.put, List.getElem_toArray, List.getElem_cons_zero, List.getElem_cons_succ, List.setIfInBounds_toArray, List.set_cons_zero, List.set_cons_succ]
          refine wpAnyH_take (i := 7) (v := .int .i64 a) rfl (by kernel_rfl) (by kernel_rfl) (by kernel_rfl) (fun _ _ _ ⟨_, h, _⟩ => nomatch h) (Or.inl ⟨by rfl, fun w _ => by go_simp⟩) (by assumption) ?_
          try simp only [Act.put, List.getElem_toArray, List.getElem_cons_zero, List.getElem_cons_succ, List.setIfInBounds_toArray, List.set_cons_zero, List.set_cons_succ]
          refine wpAnyH_take (i := 8) (v := .int .i64 c) rfl (by kernel_rfl) (by kernel_rfl) (by kernel_rfl) (fun _ _ _ ⟨_, h, _⟩ => nomatch h) (Or.inl ⟨by rfl, fun w _ => by go_simp⟩) (by assumption) ?_
          try simp only [Act.put, List.getElem_toArray, List.getElem_cons_zero, List.getElem_cons_succ, List.setIfInBounds_toArray, List.set_cons_zero, List.set_cons_succ]
          refine wpAnyH_ready (rs := [9]) (by kernel_rfl) (by simp) ?_
          refine AllReadyH.cons rfl (fun K hK => ?_) AllReadyH.nil
          refine if_wanted rfl ?_
          go_simp
          have bn : CBlk (x3.alloc (.cells #[.int .u8 0, .int .i16 0, .int .u8 0, .int .i16 0, .int .u8 0, .int .i16 0, .int .u8 0, .int .i16 0, .int .u8 0, .int .i16 0, .int .u8 0, .int .i16 0, .int .u8 0, .int .i16 0, .int .u8 0, .int .i16 0, .int .u8 0, .int .i16 0, .int .u8 0, .int .i16 0, .int .u8 0, .int .i16 0, .int .u8 0, .int .i16 0] 28)) x3.heap.size 28 noB := CBlk.new' rfl rfl
          have hn : w1.heap.size ≤ x3.heap.size := hHeld.size
          have hH2 : Below w1.heap.size w1 (x3.alloc (.cells #[.int .u8 0, .int .i16 0, .int .u8 0, .int .i16 0, .int .u8 0, .int .i16 0, .int .u8 0, .int .i16 0, .int .u8 0, .int .i16 0, .int .u8 0, .int .i16 0, .int .u8 0, .int .i16 0, .int .u8 0, .int .i16 0, .int .u8 0, .int .i16 0, .int .u8 0, .int .i16 0, .int .u8 0, .int .i16 0, .int .u8 0, .int .i16 0] 28)) := hHeld.alloc hHeld.size _
          obtain ⟨x4, hx⟩ : ∃ x, x3.alloc (.cells #[.int .u8 0, .int .i16 0, .int .u8 0, .int .i16 0, .int .u8 0, .int .i16 0, .int .u8 0, .int .i16 0, .int .u8 0, .int .i16 0, .int .u8 0, .int .i16 0, .int .u8 0, .int .i16 0, .int .u8 0, .int .i16 0, .int .u8 0, .int .i16 0, .int .u8 0, .int .i16 0, .int .u8 0, .int .i16 0, .int .u8 0, .int .i16 0] 28) = x := ⟨_, rfl⟩
          obtain ⟨N, hN⟩ : ∃ N, x3.heap.size = N := ⟨_, rfl⟩
          rw [hx] at hH2 bn ⊢
          rw [hN] at hn bn ⊢
          have BN := Lib.hid bn
          have HN := Lib.hid hn
          clear bn hn hx hN hHeld
          refine hK.out _ _ hH2 (fun hHeld => ?_)
          clear hK K hH2
          try simp only [Act.put, List.getElem_toArray, List.getElem_cons_zero, List.getElem_cons_succ, List.setIfInBounds_toArray, List.set_cons_zero, List.set_cons_succ]
          refine wpAnyH_ready (rs := [10]) (by kernel_rfl) (by simp) ?_
          refine AllReadyH.cons rfl (fun K hK => ?_) AllReadyH.nil
          refine if_wanted rfl (wp_store_row 28 (.tmp 8) (.tmp 26) rfl N (ccells Y).toArray rfl rfl 28 _ BN.out (size_of_crate Tryd.sizeCr _ HY2.out.1) (by show (ccells noB).toArray.size = _; rw [ccells_size _ HY2.out.1]; rfl) (ccells_one _) ?_)
          refine hK.out _ _ (Below.setRow hHeld _ _ HN.out) (fun hHeld => ?_)
          clear hK K
          try simp only [Act.put, List.getElem_toArray, List.getElem_cons_zero, List.getElem_cons_succ, List.setIfInBounds_toArray, List.set_cons_zero, List.set_cons_succ]
          refine wpAnyH_ready (rs := [11]) (by kernel_rfl) (by simp) ?_
          refine AllReadyH.cons rfl (fun K hK => ?_) AllReadyH.nil
          refine if_wanted rfl ?_
          refine wp_assign0 rfl rfl ?_
          refine hK.out _ _ hHeld (fun hHeld => ?_)
          clear hK K
          try simp only [Act.put, List.getElem_toArray, List.getElem_cons_zero, List.getElem_cons_succ, List.setIfInBounds_toArray, List.set_cons_zero, List.set_cons_succ]
          refine wpAnyH_ready (rs := [12]) (by kernel_rfl) (by simp) ?_
          refine AllReadyH.cons rfl (fun K hK => ?_) AllReadyH.nil
          refine if_wanted rfl ?_
          refine wp_assign0 rfl rfl ?_
          refine hK.out _ _ hHeld (fun hHeld => ?_)
          clear hK K
          try simp only [Act.put, List.getElem_toArray, List.getElem_cons_zero, List.getElem_cons_succ, List.setIfInBounds_toArray, List.set_cons_zero, List.set_cons_succ]
          exact wpAnyH_done (by kernel_rfl) ⟨N, rfl, rfl, CBlk.setRow (Y := Y) BN.out, HN.out, hHeld⟩ _
        refine AllReadyH.cons rfl (fun K hK => ?_) AllReadyH.nil
        refine if_wanted rfl ?_
        go_simp
        have bn : CBlk (x2.alloc (.cells #[.int .u8 0, .int .i16 0, .int .u8 0, .int .i16 0, .int .u8 0, .int .i16 0, .int .u8 0, .int .i16 0, .int .u8 0, .int .i16 0, .int .u8 0, .int .i16 0, .int .u8 0, .int .i16 0, .int .u8 0, .int .i16 0, .int .u8 0, .int .i16 0, .int .u8 0, .int .i16 0, .int .u8 0, .int .i16 0, .int .u8 0, .int .i16 0] 28)) x2.heap.size 28 noB := CBlk.new' rfl rfl
        have hn : w1.heap.size ≤ x2.heap.size := hHeld.size
        have hH2 : Below w1.heap.size w1 (x2.alloc (.cells #[.int .u8 0, .int .i16 0, .int .u8 0, .int .i16 0, .int .u8 0, .int .i16 0, .int .u8 0, .int .i16 0, .int .u8 0, .int .i16 0, .int .u8 0, .int .i16 0, .int .u8 0, .int .i16 0, .int .u8 0, .int .i16 0, .int .u8 0, .int .i16 0, .int .u8 0, .int .i16 0, .int .u8 0, .int .i16 0, .int .u8 0, .int .i16 0] 28)) := hHeld.alloc hHeld.size _
        obtain ⟨x5, hx⟩ : ∃ x, x2.alloc (.cells #[.int .u8 0, .int .i16 0, .int .u8 0, .int .i16 0, .int .u8 0, .int .i16 0, .int .u8 0, .int .i16 0, .int .u8 0, .int .i16 0, .int .u8 0, .int .i16 0, .int .u8 0, .int .i16 0, .int .u8 0, .int .i16 0, .int .u8 0, .int .i16 0, .int .u8 0, .int .i16 0, .int .u8 0, .int .i16 0, .int .u8 0, .int .i16 0] 28) = x := ⟨_, rfl⟩
        obtain ⟨N, hN⟩ : ∃ N, x2.heap.size = N := ⟨_, rfl⟩
        rw [hx] at hH2 bn ⊢
        rw [hN] at hn bn ⊢
        have BN := Lib.hid bn
        have HN := Lib.hid hn
        clear bn hn hx hN hHeld
        refine hK.out _ _ hH2 (fun hHeld => ?_)
        clear hK K hH2
        try simp only [Act.put, List.getElem_toArray, List.getElem_cons_zero, List.getElem_cons_succ, List.setIfInBounds_toArray, List.set_cons_zero, List.set_cons_succ]
        refine wpAnyH_ready (rs := [4]) (by kernel_rfl) (by simp) ?_
        refine AllReadyH.cons rfl (fun K hK => ?_) AllReadyH.nil
        refine if_wanted rfl ?_
        go_simp
        refine (HI.out ad _ (HE.out.below (I3.out.trans (hHeld.mono I3.out.size)) (Nat.le_refl _))).mono ?_
        rintro e x6 ⟨rfl, hb⟩
        have hH2 : Below w1.heap.size w1 x6 := hHeld.trans (hb.mono hHeld.size)
        have BN2 : Hid (CBlk x6 N 28 noB) := BN.out.below hb BN.out.lt
        clear BN
        have BN := BN2
        clear BN2
        clear hb hHeld
        dsimp only
        refine hK.out _ _ hH2 (fun hHeld => ?_)
        clear hK K hH2
        try simp only [Act.put, List.getElem_toArray, List.getElem_cons_zero, List.getElem_cons_succ, List.setIfInBounds_toArray, List.set_cons_zero, List.set_cons_succ]
        refine wpAnyH_take (i := 5) (v := .tuple #[.agg (ccells Y).toArray, .int .i64 a, .int .i64 c]) rfl (by kernel_rfl) (by kernel_rfl) (by kernel_rfl) (fun _ _ _ ⟨_, h, _⟩ => nomatch h) (Or.inl ⟨by rfl, fun w _ => by go_simp⟩) (by assumption) ?_
        try simp only [Act.put, List.getElem_toArray, List.getElem_cons_zero, List.getElem_cons_succ, List.setIfInBounds_toArray, List.set_cons_zero, List.set_cons_succ]
        refine wpAnyH_take (i := 6) (v := .agg (ccells Y).toArray) rfl (by kernel_rfl) (by kernel_rfl) (by kernel_rfl) (fun _ _ _ ⟨_, h, _⟩ => nomatch h) (Or.inl ⟨by rfl, fun w _ => by go_simp⟩) (by assumption) ?_
        try simp only [Act.put, List.getElem_toArray, List.getElem_cons_zero, List.getElem_cons_succ, List.setIfInBounds_toArray, List.set_cons_zero, List.set_cons_succ]
        refine wpAnyH_take (i := 7) (v := .int .i64 a) rfl (by kernel_rfl) (by kernel_rfl) (by kernel_rfl) (fun _ _ _ ⟨_, h, _⟩ => nomatch h) (Or.inl ⟨by rfl, fun w _ => by go_simp⟩) (by assumption) ?_
        try simp only [Act.put, List.getElem_toArray, List.getElem_cons_zero, List.getElem_cons_succ, List.setIfInBounds_toArray, List.set_cons_zero, List.set_cons_succ]
        refine wpAnyH_take (i := 8) (v := .int .i64 c) rfl (by kernel_rfl) (by kernel_rfl) (by kernel_rfl) (fun _ _ _ ⟨_, h, _⟩ => nomatch h) (Or.inl ⟨by rfl, fun w _ => by go_simp⟩) (by assumption) ?_
        try simp only [Act.put, List.getElem_toArray, List.getElem_cons_zero, List.getElem_cons_succ, List.setIfInBounds_toArray, List.set_cons_zero, List.set_cons_succ]
        refine wpAnyH_ready (rs := [10]) (by kernel_rfl) (by simp) ?_
        refine AllReadyH.cons rfl (fun K hK => ?_) AllReadyH.nil
        refine if_wanted rfl (wp_store_row 28 (.tmp 8) (.tmp 26) rfl N (ccells Y).toArray rfl rfl 28 _ BN.out (size_of_crate Tryd.sizeCr _ HY2.out.1) (by show (ccells noB).toArray.size = _; rw [ccells_size _ HY2.out.1]; rfl) (ccells_one _) ?_)
        refine hK.out _ _ (Below.setRow hHeld _ _ HN.out) (fun hHeld => ?_)
        clear hK K
        try simp only [Act.put, List.getElem_toArray, List.getElem_cons_zero, List.getElem_cons_succ, List.setIfInBounds_toArray, List.set_cons_zero, List.set_cons_succ]
        refine wpAnyH_ready (rs := [11]) (by kernel_rfl) (by simp) ?_
        refine AllReadyH.cons rfl (fun K hK => ?_) AllReadyH.nil
        refine if_wanted rfl ?_
        refine wp_assign0 rfl rfl ?_
        refine hK.out _ _ hHeld (fun hHeld => ?_)
        clear hK K
        try simp only [Act.put, List.getElem_toArray, List.getElem_cons_zero, List.getElem_cons_succ, List.setIfInBounds_toArray, List.set_cons_zero, List.set_cons_succ]
        refine wpAnyH_ready (rs := [12]) (by kernel_rfl) (by simp) ?_
        refine AllReadyH.cons rfl (fun K hK => ?_) AllReadyH.nil
        refine if_wanted rfl ?_
        refine wp_assign0 rfl rfl ?_
        refine hK.out _ _ hHeld (fun hHeld => ?_)
        clear hK K
        try simp only [Act.put, List.getElem_toArray, List.getElem_cons_zero, List.getElem_cons_succ, List.setIfInBounds_toArray, List.set_cons_zero, List.set_cons_succ]
        exact wpAnyH_done (by kernel_rfl) ⟨N, rfl, rfl, CBlk.setRow (Y := Y) BN.out, HN.out, hHeld⟩ _
      refine AllReadyH.cons rfl (fun K hK => ?_) AllReadyH.nil
      refine if_wanted rfl ?_
      go_simp
      have bn : CBlk (x1.alloc (.cells #[.int .u8 0, .int .i16 0, .int .u8 0, .int .i16 0, .int .u8 0, .int .i16 0, .int .u8 0, .int .i16 0, .int .u8 0, .int .i16 0, .int .u8 0, .int .i16 0, .int .u8 0, .int .i16 0, .int .u8 0, .int .i16 0, .int .u8 0, .int .i16 0, .int .u8 0, .int .i16 0, .int .u8 0, .int .i16 0, .int .u8 0, .int .i16 0] 28)) x1.heap.size 28 noB := CBlk.new' rfl rfl
      have hn : w1.heap.size ≤ x1.heap.size := hHeld.size
      have hH2 : Below w1.heap.size w1 (x1.alloc (.cells #[.int .u8 0, .int .i16 0, .int .u8 0, .int .i16 0, .int .u8 0, .int .i16 0, .int .u8 0, .int .i16 0, .int .u8 0, .int .i16 0, .int .u8 0, .int .i16 0, .int .u8 0, .int .i16 0, .int .u8 0, .int .i16 0, .int .u8 0, .int .i16 0, .int .u8 0, .int .i16 0, .int .u8 0, .int .i16 0, .int .u8 0, .int .i16 0] 28)) := hHeld.alloc hHeld.size _
      obtain ⟨x7, hx⟩ : ∃ x, x1.alloc (.cells #[.int .u8 0, .int .i16 0, .int .u8 0, .int .i16 0, .int .u8 0, .int .i16 0, .int .u8 0, .int .i16 0, .int .u8 0, .int .i16 0, .int .u8 0, .int .i16 0, .int .u8 0, .int .i16 0, .int .u8 0, .int .i16 0, .int .u8 0, .int .i16 0, .int .u8 0, .int .i16 0, .int .u8 0, .int .i16 0, .int .u8 0, .int .i16 0] 28) = x := ⟨_, rfl⟩
      obtain ⟨N, hN⟩ : ∃ N, x1.heap.size = N := ⟨_, rfl⟩
      rw [hx] at hH2 bn ⊢
      rw [hN] at hn bn ⊢
      have BN := Lib.hid bn
      have HN := Lib.hid hn
      clear bn hn hx hN hHeld
      refine hK.out _ _ hH2 (fun hHeld => ?_)
      clear hK K hH2
      try simp only [Act.put, List.getElem_toArray, List.getElem_cons_zero, List.getElem_cons_succ, List.setIfInBounds_toArray, List.set_cons_zero, List.set_cons_succ]
      refine wpAnyH_ready (rs := [3]) (by kernel_rfl) (by simp) ?_
      refine AllReadyH.cons rfl (fun K hK => ?_) AllReadyH.nil
      refine if_wanted rfl ?_
      go_simp
      refine (toBottle_any p q _).mono ?_
      rintro e x8 ⟨rfl, hb⟩
      have hH2 : Below w1.heap.size w1 x8 := hHeld.trans (hb.mono hHeld.size)
      have BN2 : Hid (CBlk x8 N 28 noB) := BN.out.below hb BN.out.lt
      clear BN
      have BN := BN2
      clear BN2
      clear hb hHeld
      dsimp only
      refine hK.out _ _ hH2 (fun hHeld => ?_)
      clear hK K hH2
      try simp only [Act.put, List.getElem_toArray, List.getElem_cons_zero, List.getElem_cons_succ, List.setIfInBounds_toArray, List.set_cons_zero, List.set_cons_succ]
      refine wpAnyH_ready (rs := [4]) (by kernel_rfl) (by simp) ?_
      refine AllReadyH.cons rfl (fun K hK => ?_) AllReadyH.nil
      refine if_wanted rfl ?_
      go_simp
      refine (HI.out ad _ (HE.out.below (I3.out.trans (hHeld.mono I3.out.size)) (Nat.le_refl _))).mono ?_
      rintro e x9 ⟨rfl, hb⟩
      have hH2 : Below w1.heap.size w1 x9 := hHeld.trans (hb.mono hHeld.size)
      have BN2 : Hid (CBlk x9 N 28 noB) := BN.out.below hb BN.out.lt
      clear BN
      have BN := BN2
      clear BN2
      clear hb hHeld
      dsimp only
      refine hK.out _ _ hH2 (fun hHeld => ?_)
      clear hK K hH2
      try simp only [Act.put, List.getElem_toArray, List.getElem_cons_zero, List.getElem_cons_succ, List.setIfInBounds_toArray, List.set_cons_zero, List.set_cons_succ]
      refine wpAnyH_take (i := 5) (v := .tuple #[.agg (ccells Y).toArray, .int .i64 a, .int .i64 c]) rfl (by kernel_rfl) (by kernel_rfl) (by kernel_rfl) (fun _ _ _ ⟨_, h, _⟩ => nomatch h) (Or.inl ⟨by rfl, fun w _ => by go_simp⟩) (by assumption) ?_
      try simp only [Act.put, List.getElem_toArray, List.getElem_cons_zero, List.getElem_cons_succ, List.setIfInBounds_toArray, List.set_cons_zero, List.set_cons_succ]
      refine wpAnyH_take (i := 6) (v := .agg (ccells Y).toArray) rfl (by kernel_rfl) (by kernel_rfl) (by kernel_rfl) (fun _ _ _ ⟨_, h, _⟩ => nomatch h) (Or.inl ⟨by rfl, fun w _ => by go_simp⟩) (by assumption) ?_
      try simp only [Act.put, List.getElem_toArray, List.getElem_cons_zero, List.getElem_cons_succ, List.setIfInBounds_toArray, List.set_cons_zero, List.set_cons_succ]
      refine wpAnyH_take (i := 7) (v := .int .i64 a) rfl (by kernel_rfl) (by kernel_rfl) (by kernel_rfl) (fun _ _ _ ⟨_, h, _⟩ => nomatch h) (Or.inl ⟨by rfl, fun w _ => by go_simp⟩) (by assumption) ?_
      try simp only [Act.put, List.getElem_toArray, List.getElem_cons_zero, List.getElem_cons_succ, List.setIfInBounds_toArray, List.set_cons_zero, List.set_cons_succ]
      refine wpAnyH_take (i := 8) (v := .int .i64 c) rfl (by kernel_rfl) (by kernel_rfl) (by kernel_rfl) (fun _ _ _ ⟨_, h, _⟩ => nomatch h) (Or.inl ⟨by rfl, fun w _ => by go_simp⟩) (by assumption) ?_
      try simp only [Act.put, List.getElem_toArray, List.getElem_cons_zero, List.getElem_cons_succ, List.setIfInBounds_toArray, List.set_cons_zero, List.set_cons_succ]
      refine wpAnyH_ready (rs := [10]) (by kernel_rfl) (by simp) ?_
      refine AllReadyH.cons rfl (fun K hK => ?_) AllReadyH.nil
      refine if_wanted rfl (wp_store_row 28 (.tmp 8) (.tmp 26) rfl N (ccells Y).toArray rfl rfl 28 _ BN.out (size_of_crate Tryd.sizeCr _ HY2.out.1) (by show (ccells noB).toArray.size = _; rw [ccells_size _ HY2.out.1]; rfl) (ccells_one _) ?_)
      refine hK.out _ _ (Below.setRow hHeld _ _ HN.out) (fun hHeld => ?_)
      clear hK K
      try simp only [Act.put, List.getElem_toArray, List.getElem_cons_zero, List.getElem_cons_succ, List.setIfInBounds_toArray, List.set_cons_zero, List.set_cons_succ]
      refine wpAnyH_ready (rs := [11]) (by kernel_rfl) (by simp) ?_
      refine AllReadyH.cons rfl (fun K hK => ?_) AllReadyH.nil
      refine if_wanted rfl ?_
      refine wp_assign0 rfl rfl ?_
      refine hK.out _ _ hHeld (fun hHeld => ?_)
      clear hK K
      try simp only [Act.put, List.getElem_toArray, List.getElem_cons_zero, List.getElem_cons_succ, List.setIfInBounds_toArray, List.set_cons_zero, List.set_cons_succ]
      refine wpAnyH_ready (rs := [12]) (by kernel_rfl) (by simp) ?_
      refine AllReadyH.cons rfl (fun K hK => ?_) AllReadyH.nil
      refine if_wanted rfl ?_
      refine wp_assign0 rfl rfl ?_
      refine hK.out _ _ hHeld (fun hHeld => ?_)
      clear hK K
      try simp only [Act.put, List.getElem_toArray, List.getElem_cons_zero, List.getElem_cons_succ, List.setIfInBounds_toArray, List.set_cons_zero, List.set_cons_succ]
      exact wpAnyH_done (by kernel_rfl) ⟨N, rfl, rfl, CBlk.setRow (Y := Y) BN.out, HN.out, hHeld⟩ _
    refine AllReadyH.cons rfl (fun K hK => ?_) AllReadyH.nil
    refine if_wanted rfl ?_
    go_simp
    have bn : CBlk (D0.alloc (.cells #[.int .u8 0, .int .i16 0, .int .u8 0, .int .i16 0, .int .u8 0, .int .i16 0, .int .u8 0, .int .i16 0, .int .u8 0, .int .i16 0, .int .u8 0, .int .i16 0, .int .u8 0, .int .i16 0, .int .u8 0, .int .i16 0, .int .u8 0, .int .i16 0, .int .u8 0, .int .i16 0, .int .u8 0, .int .i16 0, .int .u8 0, .int .i16 0] 28)) D0.heap.size 28 noB := CBlk.new' rfl rfl
    have hn : w1.heap.size ≤ D0.heap.size := hHeld.size
    have hH2 : Below w1.heap.size w1 (D0.alloc (.cells #[.int .u8 0, .int .i16 0, .int .u8 0, .int .i16 0, .int .u8 0, .int .i16 0, .int .u8 0, .int .i16 0, .int .u8 0, .int .i16 0, .int .u8 0, .int .i16 0, .int .u8 0, .int .i16 0, .int .u8 0, .int .i16 0, .int .u8 0, .int .i16 0, .int .u8 0, .int .i16 0, .int .u8 0, .int .i16 0, .int .u8 0, .int .i16 0] 28)) := hHeld.alloc hHeld.size _
    obtain ⟨x10, hx⟩ : ∃ x, D0.alloc (.cells #[.int .u8 0, .int .i16 0, .int .u8 0, .int .i16 0, .int .u8 0, .int .i16 0, .int .u8 0, .int .i16 0, .int .u8 0, .int .i16 0, .int .u8 0, .int .i16 0, .int .u8 0, .int .i16 0, .int .u8 0, .int .i16 0, .int .u8 0, .int .i16 0, .int .u8 0, .int .i16 0, .int .u8 0, .int .i16 0, .int .u8 0, .int .i16 0] 28) = x := ⟨_, rfl⟩
    obtain ⟨N, hN⟩ : ∃ N, D0.heap.size = N := ⟨_, rfl⟩
    rw [hx] at hH2 bn ⊢
    rw [hN] at hn bn ⊢
    have BN := Lib.hid bn
    have HN := Lib.hid hn
    clear bn hn hx hN hHeld
    refine hK.out _ _ hH2 (fun hHeld => ?_)
    clear hK K hH2
    try simp only [Act.put, List.getElem_toArray, List.getElem_cons_zero, List.getElem_cons_succ, List.setIfInBounds_toArray, List.set_cons_zero, List.set_cons_succ]
    refine wpAnyH_ready (rs := [1]) (by kernel_rfl) (by simp) ?_
    refine AllReadyH.cons rfl (fun K hK => ?_) AllReadyH.nil
    refine if_wanted rfl ?_
    go_simp
    refine (toCrate_any bs HW.out.1 _).mono ?_
    rintro e x11 ⟨rfl, hb⟩
    have hH2 : Below w1.heap.size w1 x11 := hHeld.trans (hb.mono hHeld.size)
    have BN2 : Hid (CBlk x11 N 28 noB) := BN.out.below hb BN.out.lt
    clear BN
    have BN := BN2
    clear BN2
    clear hb hHeld
    dsimp only
    refine hK.out _ _ hH2 (fun hHeld => ?_)
    clear hK K hH2
    try simp only [Act.put, List.getElem_toArray, List.getElem_cons_zero, List.getElem_cons_succ, List.setIfInBounds_toArray, List.set_cons_zero, List.set_cons_succ]
    refine wpAnyH_ready (rs := [3]) (by kernel_rfl) (by simp) ?_
    refine AllReadyH.cons rfl (fun K hK => ?_) AllReadyH.nil
    refine if_wanted rfl ?_
    go_simp
    refine (toBottle_any p q _).mono ?_
    rintro e x12 ⟨rfl, hb⟩
    have hH2 : Below w1.heap.size w1 x12 := hHeld.trans (hb.mono hHeld.size)
    have BN2 : Hid (CBlk x12 N 28 noB) := BN.out.below hb BN.out.lt
    clear BN
    have BN := BN2
    clear BN2
    clear hb hHeld
    dsimp only
    refine hK.out _ _ hH2 (fun hHeld => ?_)
    clear hK K hH2
    try simp only [Act.put, List.getElem_toArray, List.getElem_cons_zero, List.getElem_cons_succ, List.setIfInBounds_toArray, List.set_cons_zero, List.set_cons_succ]
    refine wpAnyH_ready (rs := [4]) (by kernel_rfl) (by simp) ?_
    refine AllReadyH.cons rfl (fun K hK => ?_) AllReadyH.nil
    refine if_wanted rfl ?_
    go_simp
    refine (HI.out ad _ (HE.out.below (I3.out.trans (hHeld.mono I3.out.size)) (Nat.le_refl _))).mono ?_
    rintro e x13 ⟨rfl, hb⟩
    have hH2 : Below w1.heap.size w1 x13 := hHeld.trans (hb.mono hHeld.size)
    have BN2 : Hid (CBlk x13 N 28 noB) := BN.out.below hb BN.out.lt
    clear BN
    have BN := BN2
    clear BN2
    clear hb hHeld
    dsimp only
    refine hK.out _ _ hH2 (fun hHeld => ?_)
    clear hK K hH2
    try simp only [Act.put, List.getElem_toArray, List.getElem_cons_zero, List.getElem_cons_succ, List.setIfInBounds_toArray, List.set_cons_zero, List.set_cons_succ]
    refine wpAnyH_take (i := 5) (v := .tuple #[.agg (ccells Y).toArray, .int .i64 a, .int .i64 c]) rfl (by kernel_rfl) (by kernel_rfl) (by kernel_rfl) (fun _ _ _ ⟨_, h, _⟩ => nomatch h) (Or.inl ⟨by rfl, fun w _ => by go_simp⟩) (by assumption) ?_
    try simp only [Act.put, List.getElem_toArray, List.getElem_cons_zero, List.getElem_cons_succ, List.setIfInBounds_toArray, List.set_cons_zero, List.set_cons_succ]
    refine wpAnyH_take (i := 6) (v := .agg (ccells Y).toArray) rfl (by kernel_rfl) (by kernel_rfl) (by kernel_rfl) (fun _ _ _ ⟨_, h, _⟩ => nomatch h) (Or.inl ⟨by rfl, fun w _ => by go_simp⟩) (by assumption) ?_
    try simp only [Act.put, List.getElem_toArray, List.getElem_cons_zero, List.getElem_cons_succ, List.setIfInBounds_toArray, List.set_cons_zero, List.set_cons_succ]
    refine wpAnyH_take (i := 7) (v := .int .i64 a) rfl (by kernel_rfl) (by kernel_rfl) (by kernel_rfl) (fun _ _ _ ⟨_, h, _⟩ => nomatch h) (Or.inl ⟨by rfl, fun w _ => by go_simp⟩) (by assumption) ?_
    try simp only [Act.put, List.getElem_toArray, List.getElem_cons_zero, List.getElem_cons_succ, List.setIfInBounds_toArray, List.set_cons_zero, List.set_cons_succ]
    refine wpAnyH_take (i := 8) (v := .int .i64 c) rfl (by kernel_rfl) (by kernel_rfl) (by kernel_rfl) (fun _ _ _ ⟨_, h, _⟩ => nomatch h) (Or.inl ⟨by rfl, fun w _ => by go_simp⟩) (by assumption) ?_
    try simp only [Act.put, List.getElem_toArray, List.getElem_cons_zero, List.getElem_cons_succ, List.setIfInBounds_toArray, List.set_cons_zero, List.set_cons_succ]
    refine wpAnyH_ready (rs := [10]) (by kernel_rfl) (by simp) ?_
    refine AllReadyH.cons rfl (fun K hK => ?_) AllReadyH.nil
    refine if_wanted rfl (wp_store_row 28 (.tmp 8) (.tmp 26) rfl N (ccells Y).toArray rfl rfl 28 _ BN.out (size_of_crate Tryd.sizeCr _ HY2.out.1) (by show (ccells noB).toArray.size = _; rw [ccells_size _ HY2.out.1]; rfl) (ccells_one _) ?_)
    refine hK.out _ _ (Below.setRow hHeld _ _ HN.out) (fun hHeld => ?_)
    clear hK K
    try simp only [Act.put, List.getElem_toArray, List.getElem_cons_zero, List.getElem_cons_succ, List.setIfInBounds_toArray, List.set_cons_zero, List.set_cons_succ]
    refine wpAnyH_ready (rs := [11]) (by kernel_rfl) (by simp) ?_
    refine AllReadyH.cons rfl (fun K hK => ?_) AllReadyH.nil
    refine if_wanted rfl ?_
    refine wp_assign0 rfl rfl ?_
    refine hK.out _ _ hHeld (fun hHeld => ?_)
    clear hK K
    try simp only [Act.put, List.getElem_toArray, List.getElem_cons_zero, List.getElem_cons_succ, List.setIfInBounds_toArray, List.set_cons_zero, List.set_cons_succ]
    refine wpAnyH_ready (rs := [12]) (by kernel_rfl) (by simp) ?_
    refine AllReadyH.cons rfl (fun K hK => ?_) AllReadyH.nil
    refine if_wanted rfl ?_
    refine wp_assign0 rfl rfl ?_
    refine hK.out _ _ hHeld (fun hHeld => ?_)
    clear hK K
    try simp only [Act.put, List.getElem_toArray, List.getElem_cons_zero, List.getElem_cons_succ, List.setIfInBounds_toArray, List.set_cons_zero, List.set_cons_succ]
    exact wpAnyH_done (by kernel_rfl) ⟨N, rfl, rfl, CBlk.setRow (Y := Y) BN.out, HN.out, hHeld⟩ _
  rintro e a' w2 ⟨B2, rfl, rfl, hC, hge, hb⟩
  have D1 : Hid (CBlk w2 B 28 Y) := C1.out.below hb C1.out.lt
  have D2 := Lib.hid hC
  have J3 : Hid (Below w.heap.size w w2) := I3.out.trans (hb.mono I3.out.size)
  clear hC hge hb
  go_wp2_with (first
    | (refine wpList_load_row rfl 28 (.tmp 8) rfl B2 rfl 28 _ (0, 0) _ D2.out Tryd.underlying28 rfl (size_of_crate Tryd.sizeCr _ HY2.out.1) ?_)
    | (refine wpList_load_row rfl 28 (.tmp 5) rfl B rfl 28 _ (0, 0) _ D1.out Tryd.underlying28 rfl (size_of_crate Tryd.sizeCr _ HY2.out.1) ?_))
  refine (eqCrate_same Y HY2.out _).mono ?_
  rintro e w5 ⟨rfl, hb5⟩
  have H5 : Hid (Below w.heap.size w w5) := J3.out.trans (hb5.mono J3.out.size)
  clear hb5
  go_wp2
  go_ret
  exact ⟨rfl, H5.out⟩

theorem addLaw_any (bs : List Bot) (hwf : WfC bs) (p q : Int) (hp : 0 ≤ p ∧ p ≤ 255) (hq : -32768 ≤ q ∧ q ≤ 32767) (ad : Nat → Addr) (w : World) (hE : EW 7 w ad) : Calls Tryd.prog 5 #[.agg (ccells bs).toArray, .agg #[.int .u8 p, .int .i16 q]] w (Good w) := by
  have wfN : WfC noB := ⟨rfl, by intro b hb; simp [noB] at hb; subst hb; simp [wfB]⟩
  cases hok : okC bs
  · cases hv : vB (p, q)
    · exact addLaw_gen bs hwf p q 0 noB wfN 1 (fun w => specAdd_bad0 bs hwf p q hp hq hok w) (fun ad w hE => implAdd_bad00 bs hwf p q hok hv ad w hE) ad w hE
    · exact addLaw_gen bs hwf p q 0 noB wfN 1 (fun w => specAdd_bad0 bs hwf p q hp hq hok w) (fun ad w hE => implAdd_bad01 bs hwf p q hok hv ad w hE) ad w hE
  · cases hv : vB (p, q)
    · exact addLaw_gen bs hwf p q 0 noB wfN 1 (fun w => specAdd_bad1 bs hwf p q hp hq hok hv w) (fun ad w hE => implAdd_bad1 bs hwf p q hok hv ad w hE) ad w hE
    · rcases fp_cases eB bs with ⟨k, b, hb, _, _, hf⟩ | ⟨_, hf⟩
      · have hk : k < 12 := by have := (List.getElem?_eq_some_iff.1 hb).1; rw [hwf.1] at this; exact this
        refine addLaw_gen bs hwf p q k (bs.set k (p, q)) ⟨by rw [List.length_set]; exact hwf.1, fun b hb => ?_⟩ 0 (fun w => specAdd_hit bs hwf p q hp hq hok hv k hk hf w) (fun ad w hE => implAdd_hit bs hwf p q hok hv k hk hf ad w hE) ad w hE
        rcases List.mem_or_eq_of_mem_set hb with h | h
        · exact hwf.2 b h
        · subst h; simp [wfB]; omega
      · exact addLaw_gen bs hwf p q 0 noB wfN 3 (fun w => specAdd_none bs hwf p q hp hq hok hv hf w) (fun ad w hE => implAdd_none bs hwf p q hok hv hf ad w hE) ad w hE

set_option maxRecDepth 100000 in
theorem fnExactAddBottle_lifted (os : Os) (started : os.Started) (H : Type) (enc : TypeId × Value → H) :
    ReturnsInHanded {} Tryd.checked os 5 .any (fun w args => (Rows.fnExactAddBottleSpec.pre enc Tryd.prog Tryd.f5 Rows.fnExactAddBottleRow.domain false w args ∧ laidMetH Tryd.prog (lay sl7) w) ∧ sizedMet enc Tryd.prog Tryd.f5 (OpenSpec.ofChange Rows.fnExactAddBottleSpec) false w args)
      (Rows.fnExactAddBottleSpec.post enc Tryd.prog Tryd.f5 false true false false) := by
  refine law_liftL (C := Tryd.checked) 2 7 Tryd.own started (by kernel_rfl) Tryd.func5
    (ChangeSpec.witness_shaped (enc := enc) (C := Tryd.checked) (os := os) (X := fun w _ => laidMetH Tryd.prog (lay sl7) w) false (World.doorLaid Tryd.prog 142 os) #[.agg #[.int .u8 0, .int .i16 0, .int .u8 0, .int .i16 0, .int .u8 0, .int .i16 0, .int .u8 0, .int .i16 0, .int .u8 0, .int .i16 0, .int .u8 0, .int .i16 0, .int .u8 0, .int .i16 0, .int .u8 0, .int .i16 0, .int .u8 0, .int .i16 0, .int .u8 0, .int .i16 0, .int .u8 0, .int .i16 0, .int .u8 0, .int .i16 0], .agg #[.int .u8 0, .int .i16 0]] 8 rfl (World.shaped_of_RefB (by kernel_rfl) (by kernel_rfl)) (by kernel_rfl) (by kernel_rfl) (by kernel_rfl)
      (laidMetH_of_parts3 (fuel := 8) (laidMet_of_run' 8 (by kernel_rfl) (by kernel_rfl)) (by kernel_rfl) (by kernel_rfl)))
    Tryd.laidOut (by kernel_rfl) rfl (by kernel_rfl) Tryd.underlying4 (by kernel_rfl) (by kernel_rfl)
    (fun ds gs h h' => by match ds, gs, h, h' with | [d1, d2], [g1, g2, g3, g4, g5, g6, g7], _, _ => rfl) ?_
  intro W base args ds p hL hval hA
  rw [Tryd.params5] at hA hval
  obtain ⟨v0, v1, d0, d1, r0, r1, rfl, rfl, rfl, h0, h1⟩ := trodAll_two hA
  obtain ⟨bs, hl, rfl, hwf⟩ := open_crate (n := 12) Tryd.underlying25 (by kernel_rfl) Tryd.underlying24 Tryd.underlying5 Tryd.underlying22 (by kernel_rfl) (by kernel_rfl) (hval 0 25 v0 rfl rfl) h0
  obtain ⟨⟨p, q⟩, ⟨a1, a2, a3, a4⟩, rfl⟩ := open_bottle Tryd.underlying24 Tryd.underlying5 Tryd.underlying22 (by kernel_rfl) (by kernel_rfl) (hval 1 24 v1 rfl rfl) h1
  obtain ⟨ad, hE⟩ := ew7_of hL
  exact addLaw_any bs ⟨hl, hwf⟩ p q ⟨a1, a2⟩ ⟨a3, a4⟩ ad W hE

theorem fnExactAddBottle_row : Rows.FnExactAddBottleSaid :=
  OpenClaim.holds_of_wide 5 Tryd.f5 rfl rfl rfl rfl rfl rfl rfl ⟨rfl, rfl, rfl, rfl, rfl⟩ rfl rfl rfl rfl rfl (by kernel_rfl) Tryd.func5 (by kernel_rfl)
    (of_decide_eq_true (by kernel_rfl)) (by unfold Func.isWrapper; rw [if_neg (of_decide_eq_false (by kernel_rfl))]; exact ⟨rfl, rfl⟩)
    (fun os started H enc _ => fnExactAddBottle_lifted os started H enc)

theorem fnExactAddBottle_card : Rows.FnExactAddBottleCardSaid :=
  Claim7.holds_tied_plain_at .later [] [.sentinel, .sentinel, .sentinel, .sentinel, .sentinel, .sentinel, .sentinel] true (true, "2bc591f4d2f62dbd1fc91a1381c07e26b06ad54de8418bcbe3f9ca9cd24dd515") true
    fnExactAddBottle_row (fun _ h => by cases h) (by kernel_rfl) (fun _ h => by cases h) fnExactAddBottle_row_tie rfl ⟨rfl, rfl⟩ (by kernel_rfl) rfl
    (fun f fn hf hfn => by
      obtain rfl : f = 5 := Option.some.inj ((show Tryd.prog.funcNamed "loop.example/g01353/laws.FnExactAddBottle" = some 5 by kernel_rfl).symm.trans hf) |>.symm
      obtain rfl : fn = Tryd.f5 := (Option.some.inj (Tryd.func5.symm.trans hfn)).symm
      exact ⟨by kernel_rfl, fun j t ht => by
        have hm : t ∈ Tryd.f5.params.toList := Array.mem_toList_iff.2 (Array.mem_of_getElem? ht)
        have hall : (Tryd.f5.params.toList.all fun u => !Tryd.prog.wantsStandIn u) = true := by kernel_rfl
        exact (show Tryd.prog.wantsStandIn t = false by simpa using List.all_eq_true.1 hall t hm)⟩)
    (by kernel_rfl)
#print axioms fnExactAddBottle_card
end Go.Proofs.YtjiihdljchaeiadDoor
