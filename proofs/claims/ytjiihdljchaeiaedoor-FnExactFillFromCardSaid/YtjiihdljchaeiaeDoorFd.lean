/-
  FnExactFillFrom: for all crates the law returns true, and its arguments read as before. No condition but that the sentinel errors hold what the program's text lays (tied).
-/
import Derived.Test.YtjiihdljchaeiaeDoorCards
import Derived.Test.YtjiihdljchaeiaeDoorTie
import Derived.Test.YtjiihdljchaeiaeDoorG
import Derived.Test.YtjiihdljchaeiaeDoorR
import Derived.Test.YtjiihdljchaeiaeDoorFc
import Derived.SevenTiedAt
namespace Go.Proofs.YtjiihdljchaeiaeDoor
open Go.ChangeShapes Go.WideShapes Go.ChangeAt Go.RowKit Go.Deep

theorem wpList_load_row_g {P : Program} {ops : Array Oper} {rest : List Oper} {o : Oper} {a : Act} {w : World} {Q : Exit → Act → World → Prop} (hw : Region.wanted o (yielded ops a.tmps) = true) (ty : TypeId) (x : Operand) (ho : o.op = .load ty x)
    (g : Nat) (hx : a.eval x = .pointer (some ⟨g, 0, none⟩)) (t : TypeId) (cs : Array Value) (fr : Nat × Nat) (d : TypeDesc) (hg : w.heap[g]? = some (.cells cs t fr))
    (hu : P.underlying ty = some d) (hd : (match d with | .struct _ | .array _ _ => true | _ => false) = true) (hi : (P.info? ty).map (·.size) = some cs.size)
    (h : wpList P ops Q rest (a.put o.dst (.agg cs)) w) : wpList P ops Q (o :: rest) a w :=
  wpList_step fun K hK => by rw [if_pos hw]; exact wp_load_row ty x ho g hx t cs fr d hg hu hd hi (hK _ _ h)
theorem zA.{u} {α : Type u} {xs : List α} {i : Nat} (h : i < xs.toArray.size) : xs.toArray[i] = xs[i]'(by simpa using h) := List.getElem_toArray h
theorem zB.{u} {α : Type u} {a : α} {xs : List α} (h : 0 < (a :: xs).length) : (a :: xs)[0] = a := rfl
theorem zC.{u} {α : Type u} {a : α} {xs : List α} {i : Nat} (h : i + 1 < (a :: xs).length) : (a :: xs)[i + 1] = xs[i]'(Nat.lt_of_succ_lt_succ h) := rfl
theorem zD.{u} {α : Type u} (xs : List α) (i : Nat) (a : α) : xs.toArray.setIfInBounds i a = (xs.set i a).toArray := List.setIfInBounds_toArray ..
theorem zE.{u} {α : Type u} {a b : α} {xs : List α} : (a :: xs).set 0 b = b :: xs := rfl
theorem zF.{u} {α : Type u} {a b : α} {xs : List α} {i : Nat} : (a :: xs).set (i + 1) b = a :: xs.set i b := rfl
def fiX (a b : List Bot) : List Bot := if (okC a && okC b) = true then fillA a b (usedN a eB 12) (usedN b nE 12) (minN a b) else noB
def fiY (a b : List Bot) : List Bot := if (okC a && okC b) = true then fillB b (usedN b nE 12) (minN a b) else noB
def fiC (a b : List Bot) : Int := if (okC a && okC b) = true then 0 else 1
theorem fiX_wf {a b : List Bot} (ha : WfC a) (hb : WfC b) : WfC (fiX a b) := by
  unfold fiX; split
  · exact fillA_wf ha hb _ _ _
  · exact wfNo
theorem fiY_wf {a b : List Bot} (hb : WfC b) : WfC (fiY a b) := by
  unfold fiY; split
  · exact fillB_wf hb _ _
  · exact wfNo
theorem specFill_any (a b : List Bot) (ha : WfC a) (hb : WfC b) (w : World) : Calls Tryd.prog 18 #[.agg (ccells a).toArray, .agg (ccells b).toArray] w fun e w' => e = .returned (fiV (fiX a b) (fiY a b) (fiC a b)) ∧ Below w.heap.size w w' := by
  cases h1 : okC a
  · have e : (okC a && okC b) = false := by rw [h1]; rfl
    have := specFill_badA a b ha hb h1 w
    simpa [fiX, fiY, fiC, h1] using this
  · cases h2 : okC b
    · have := specFill_badB a b ha hb h1 h2 w
      simpa [fiX, fiY, fiC, h1, h2] using this
    · have := specFill_ok a b ha hb h1 h2 w
      simpa [fiX, fiY, fiC, h1, h2] using this
theorem implFill_any (a b : List Bot) (ha : WfC a) (hb : WfC b) (ad : Nat → Addr) (w : World) (hE : EW 7 w ad) : Calls Tryd.prog 19 #[.agg (ccells a).toArray, .agg (ccells b).toArray] w fun e w' => e = .returned (fiV (fiX a b) (fiY a b) (fiC a b)) ∧ Below w.heap.size w w' := by
  cases h : (okC a && okC b)
  · have := implFill_bad a b ha hb h ad w hE
    simpa [fiX, fiY, fiC, h] using this
  · have := implFill_ok a b ha hb h ad w hE
    simpa [fiX, fiY, fiC, h] using this

set_option maxRecDepth 100000 in
set_option maxHeartbeats 48000000 in
theorem fillLaw_gen (a b : List Bot) (ha : WfC a) (hb : WfC b) (X Y : List Bot) (hX : WfC X) (hY : WfC Y) (c : Int)
    (hS : ∀ w, Calls Tryd.prog 18 #[.agg (ccells a).toArray, .agg (ccells b).toArray] w fun e w' => e = .returned (.tuple #[.agg (ccells X).toArray, .agg (ccells Y).toArray, .int .i64 c]) ∧ Below w.heap.size w w')
    (hI : ∀ ad w, EW 7 w ad → Calls Tryd.prog 19 #[.agg (ccells a).toArray, .agg (ccells b).toArray] w fun e w' => e = .returned (.tuple #[.agg (ccells X).toArray, .agg (ccells Y).toArray, .int .i64 c]) ∧ Below w.heap.size w w')
    (ad : Nat → Addr) (w : World) (hE : EW 7 w ad) : Calls Tryd.prog 5 #[.agg (ccells a).toArray, .agg (ccells b).toArray] w (Good w) := by
  have HA := Lib.hid ha
  have HB := Lib.hid hb
  have HX := Lib.hid hX
  have HY := Lib.hid hY
  have HE := Lib.hid hE
  have HS := Lib.hid hS
  have HI := Lib.hid hI
  clear ha hb hX hY hE hS hI
  have h1 : CBlk ((w.alloc (.cells (ccells a).toArray 25)).alloc (.cells (ccells b).toArray 25)) w.heap.size 25 a := (CBlk.new w 25 a).alloc _
  have h2 : CBlk ((w.alloc (.cells (ccells a).toArray 25)).alloc (.cells (ccells b).toArray 25)) (w.heap.size + 1) 25 b := CBlk.new' (by simp) rfl
  have h3 : Below w.heap.size w ((w.alloc (.cells (ccells a).toArray 25)).alloc (.cells (ccells b).toArray 25)) := (by repeat (first | exact Below.refl _ _ | refine Below.drew ?_ | refine Below.alloc ?_ (by simp <;> omega) _ | refine Below.setCell ?_ (by simp <;> omega) _))
  go_enter Tryd.func5, Tryd.ntmps5
  go_wp2_with fail
  obtain ⟨W0, hW0⟩ : ∃ W0, (w.alloc (.cells (ccells a).toArray 25)).alloc (.cells (ccells b).toArray 25) = W0 := ⟨_, rfl⟩
  rw [hW0] at h1 h2 h3 ⊢
  have G1 := Lib.hid h1
  have G2 := Lib.hid h2
  have G3 := Lib.hid h3
  clear h1 h2 h3 hW0
  refine Code.wp_mono (Q := fun e a' w' => ∃ B1 B2, e = .normal ∧ a' = { tmps := #[.agg (ccells a).toArray, .agg (ccells b).toArray, .pointer (some ⟨w.heap.size, 0, none⟩), .pointer (some ⟨w.heap.size + 1, 0, none⟩), .bool false, .pointer (some ⟨B1, 0, none⟩), .pointer (some ⟨B2, 0, none⟩), .int .i64 c, undef, undef, undef, .tuple #[.agg (ccells X).toArray, .agg (ccells Y).toArray, .int .i64 c], .agg (ccells a).toArray, .agg (ccells a).toArray, .agg (ccells b).toArray, .agg (ccells b).toArray, .tuple #[.agg (ccells X).toArray, .agg (ccells Y).toArray, .int .i64 c], .agg (ccells X).toArray, .agg (ccells Y).toArray, .int .i64 c, undef, undef, undef, undef, undef, undef, undef, undef, undef, undef, undef, undef, undef, undef, undef, undef, undef, undef, undef, undef, undef, undef, undef, undef], defers := [] } ∧ CBlk w' B1 31 X ∧ CBlk w' B2 31 Y ∧ Below W0.heap.size W0 w') ?_ ?_
  rotate_left
  · skip
    refine wp_region_held_drew (S := fun w' => Below W0.heap.size W0 w') (by kernel_rfl) (Below.refl _ _).drew (fun hHeld => ?_)
    refine' wpAnyH_take (i := 0) (v := _) rfl (by kernel_rfl) (by kernel_rfl) (by kernel_rfl) (fun _ _ _ ⟨_, _, h, _⟩ => nomatch h) (yieldsIf_load_mid (by rfl) 25 (.tmp 2) rfl w.heap.size 0 rfl (ccells a) _ (fun w h => CBlk.range (G1.out.below h G1.out.lt)) Tryd.underlying25 rfl (size_of_crate Tryd.sizeLc _ HA.out.1)) (by assumption) ?_
    try simp only [Act.put, zA, zB, zD, zE, zF]
    refine' wpAnyH_take (i := 2) (v := _) rfl (by kernel_rfl) (by kernel_rfl) (by kernel_rfl) (fun _ _ _ ⟨_, _, h, _⟩ => nomatch h) (yieldsIf_load_mid (by rfl) 25 (.tmp 3) rfl (w.heap.size + 1) 0 rfl (ccells b) _ (fun w h => CBlk.range (G2.out.below h G2.out.lt)) Tryd.underlying25 rfl (size_of_crate Tryd.sizeLc _ HB.out.1)) (by assumption) ?_
    try simp only [Act.put, zA, zB, zC, zD, zE, zF]
    obtain ⟨D0, hD0⟩ : ∃ D0, W0.drew = D0 := ⟨_, rfl⟩
    rw [hD0] at hHeld ⊢
    clear hD0
    refine wpAnyH_ready (rs := [1, 9, 10]) (by kernel_rfl) (by simp) ?_
    refine AllReadyH.cons rfl (fun K hK => ?_) ?_
    ·skip
     refine if_wanted rfl ?_
     go_simp
     refine (toCrate_any a HA.out.1 _).mono ?_
     rintro e x1 ⟨rfl, hb⟩
     have hH2 : Below W0.heap.size W0 x1 := hHeld.trans (hb.mono hHeld.size)
     clear hb hHeld
     dsimp only
     refine hK.out _ _ hH2 (fun hHeld => ?_)
     clear hK K hH2
     try simp only [Act.put, zA, zB, zC, zD, zE, zF]
     refine wpAnyH_ready (rs := [3, 9, 10]) (by kernel_rfl) (by simp) ?_
     refine AllReadyH.cons rfl (fun K hK => ?_) ?_
     ·skip
      refine if_wanted rfl ?_
      go_simp
      refine (toCrate_any b HB.out.1 _).mono ?_
      rintro e x2 ⟨rfl, hb⟩
      have hH2 : Below W0.heap.size W0 x2 := hHeld.trans (hb.mono hHeld.size)
      clear hb hHeld
      dsimp only
      refine hK.out _ _ hH2 (fun hHeld => ?_)
      clear hK K hH2
      try simp only [Act.put, zA, zB, zC, zD, zE, zF]
      refine wpAnyH_ready (rs := [4, 9, 10]) (by kernel_rfl) (by simp) ?_
      refine AllReadyH.cons rfl (fun K hK => ?_) ?_
      ·skip
       refine if_wanted rfl ?_
       go_simp
       refine (HS.out _).mono ?_
       rintro e x3 ⟨rfl, hb⟩
       have hH2 : Below W0.heap.size W0 x3 := hHeld.trans (hb.mono hHeld.size)
       clear hb hHeld
       dsimp only
       refine hK.out _ _ hH2 (fun hHeld => ?_)
       clear hK K hH2
       try simp only [Act.put, zA, zB, zC, zD, zE, zF]
       refine wpAnyH_take (i := 5) (v := .tuple #[.agg (ccells X).toArray, .agg (ccells Y).toArray, .int .i64 c]) rfl (by kernel_rfl) (by kernel_rfl) (by kernel_rfl) (fun _ _ _ ⟨_, _, h, _⟩ => nomatch h) (Or.inl ⟨by rfl, fun w _ => by go_simp⟩) (by assumption) ?_
       try simp only [Act.put, zA, zB, zC, zD, zE, zF]
       refine wpAnyH_take (i := 6) (v := .agg (ccells X).toArray) rfl (by kernel_rfl) (by kernel_rfl) (by kernel_rfl) (fun _ _ _ ⟨_, _, h, _⟩ => nomatch h) (Or.inl ⟨by rfl, fun w _ => by go_simp⟩) (by assumption) ?_
       try simp only [Act.put, zA, zB, zC, zD, zE, zF]
       refine wpAnyH_take (i := 7) (v := .agg (ccells Y).toArray) rfl (by kernel_rfl) (by kernel_rfl) (by kernel_rfl) (fun _ _ _ ⟨_, _, h, _⟩ => nomatch h) (Or.inl ⟨by rfl, fun w _ => by go_simp⟩) (by assumption) ?_
       try simp only [Act.put, zA, zB, zC, zD, zE, zF]
       refine wpAnyH_take (i := 8) (v := .int .i64 c) rfl (by kernel_rfl) (by kernel_rfl) (by kernel_rfl) (fun _ _ _ ⟨_, _, h, _⟩ => nomatch h) (Or.inl ⟨by rfl, fun w _ => by go_simp⟩) (by assumption) ?_
       try simp only [Act.put, zA, zB, zC, zD, zE, zF]
       refine wpAnyH_ready (rs := [9, 10]) (by kernel_rfl) (by simp) ?_
       refine AllReadyH.cons rfl (fun K hK => ?_) ?_
       ·skip
        refine if_wanted rfl ?_
        go_simp
        have bn : CBlk (x3.alloc (.cells #[.int .u8 0, .int .i16 0, .int .u8 0, .int .i16 0, .int .u8 0, .int .i16 0, .int .u8 0, .int .i16 0, .int .u8 0, .int .i16 0, .int .u8 0, .int .i16 0, .int .u8 0, .int .i16 0, .int .u8 0, .int .i16 0, .int .u8 0, .int .i16 0, .int .u8 0, .int .i16 0, .int .u8 0, .int .i16 0, .int .u8 0, .int .i16 0] 31)) x3.heap.size 31 noB := CBlk.new' rfl rfl
        have hn : W0.heap.size ≤ x3.heap.size := hHeld.size
        have hH2 : Below W0.heap.size W0 (x3.alloc (.cells #[.int .u8 0, .int .i16 0, .int .u8 0, .int .i16 0, .int .u8 0, .int .i16 0, .int .u8 0, .int .i16 0, .int .u8 0, .int .i16 0, .int .u8 0, .int .i16 0, .int .u8 0, .int .i16 0, .int .u8 0, .int .i16 0, .int .u8 0, .int .i16 0, .int .u8 0, .int .i16 0, .int .u8 0, .int .i16 0, .int .u8 0, .int .i16 0] 31)) := hHeld.alloc hHeld.size _
        obtain ⟨x4, hx⟩ : ∃ x, x3.alloc (.cells #[.int .u8 0, .int .i16 0, .int .u8 0, .int .i16 0, .int .u8 0, .int .i16 0, .int .u8 0, .int .i16 0, .int .u8 0, .int .i16 0, .int .u8 0, .int .i16 0, .int .u8 0, .int .i16 0, .int .u8 0, .int .i16 0, .int .u8 0, .int .i16 0, .int .u8 0, .int .i16 0, .int .u8 0, .int .i16 0, .int .u8 0, .int .i16 0] 31) = x := ⟨_, rfl⟩
        obtain ⟨N9, hN⟩ : ∃ N, x3.heap.size = N := ⟨_, rfl⟩
        rw [hx] at hH2 bn ⊢
        rw [hN] at hn bn ⊢
        have B9 := Lib.hid bn
        have H9 := Lib.hid hn
        clear bn hn hx hN hHeld
        refine hK.out _ _ hH2 (fun hHeld => ?_)
        clear hK K hH2
        try simp only [Act.put, zA, zB, zC, zD, zE, zF]
        refine wpAnyH_ready (rs := [10]) (by kernel_rfl) (by simp) ?_
        refine AllReadyH.cons rfl (fun K hK => ?_) AllReadyH.nil
        refine if_wanted rfl ?_
        go_simp
        have bn : CBlk (x4.alloc (.cells #[.int .u8 0, .int .i16 0, .int .u8 0, .int .i16 0, .int .u8 0, .int .i16 0, .int .u8 0, .int .i16 0, .int .u8 0, .int .i16 0, .int .u8 0, .int .i16 0, .int .u8 0, .int .i16 0, .int .u8 0, .int .i16 0, .int .u8 0, .int .i16 0, .int .u8 0, .int .i16 0, .int .u8 0, .int .i16 0, .int .u8 0, .int .i16 0] 31)) x4.heap.size 31 noB := CBlk.new' rfl rfl
        have hn : W0.heap.size ≤ x4.heap.size := hHeld.size
        have hH2 : Below W0.heap.size W0 (x4.alloc (.cells #[.int .u8 0, .int .i16 0, .int .u8 0, .int .i16 0, .int .u8 0, .int .i16 0, .int .u8 0, .int .i16 0, .int .u8 0, .int .i16 0, .int .u8 0, .int .i16 0, .int .u8 0, .int .i16 0, .int .u8 0, .int .i16 0, .int .u8 0, .int .i16 0, .int .u8 0, .int .i16 0, .int .u8 0, .int .i16 0, .int .u8 0, .int .i16 0] 31)) := hHeld.alloc hHeld.size _
        have C9 : Hid (CBlk (x4.alloc (.cells #[.int .u8 0, .int .i16 0, .int .u8 0, .int .i16 0, .int .u8 0, .int .i16 0, .int .u8 0, .int .i16 0, .int .u8 0, .int .i16 0, .int .u8 0, .int .i16 0, .int .u8 0, .int .i16 0, .int .u8 0, .int .i16 0, .int .u8 0, .int .i16 0, .int .u8 0, .int .i16 0, .int .u8 0, .int .i16 0, .int .u8 0, .int .i16 0] 31)) N9 31 noB) := B9.out.alloc _
        have hNE0 : N9 < x4.heap.size := B9.out.lt
        clear B9
        obtain ⟨x5, hx⟩ : ∃ x, x4.alloc (.cells #[.int .u8 0, .int .i16 0, .int .u8 0, .int .i16 0, .int .u8 0, .int .i16 0, .int .u8 0, .int .i16 0, .int .u8 0, .int .i16 0, .int .u8 0, .int .i16 0, .int .u8 0, .int .i16 0, .int .u8 0, .int .i16 0, .int .u8 0, .int .i16 0, .int .u8 0, .int .i16 0, .int .u8 0, .int .i16 0, .int .u8 0, .int .i16 0] 31) = x := ⟨_, rfl⟩
        obtain ⟨N10, hN⟩ : ∃ N, x4.heap.size = N := ⟨_, rfl⟩
        rw [hx] at hH2 bn C9 ⊢
        rw [hN] at hn bn hNE0 ⊢
        have B9 := C9
        clear C9
        have hNE := Lib.hid hNE0
        clear hNE0
        have B10 := Lib.hid bn
        have H10 := Lib.hid hn
        clear bn hn hx hN hHeld
        refine hK.out _ _ hH2 (fun hHeld => ?_)
        clear hK K hH2
        try simp only [Act.put, zA, zB, zC, zD, zE, zF]
        have HNE : Hid (N9 ≠ N10) := by have := hNE.out; show N9 ≠ N10; omega
        refine wpAnyH_ready (rs := [11]) (by kernel_rfl) (by simp) ?_
        refine AllReadyH.cons rfl (fun K hK => ?_) AllReadyH.nil
        refine if_wanted rfl (wp_store_row 31 (.tmp 5) (.tmp 17) rfl N9 (ccells X).toArray rfl rfl 31 _ B9.out (size_of_crate Tryd.sizeCr _ HX.out.1) (by show (ccells noB).toArray.size = _; rw [ccells_size _ HX.out.1]; rfl) (ccells_one _) ?_)
        refine hK.out _ _ (Below.setRow hHeld _ _ H9.out) (fun hHeld => ?_)
        clear hK K
        try simp only [Act.put, zA, zB, zC]
        refine wpAnyH_ready (rs := [12]) (by kernel_rfl) (by simp) ?_
        refine AllReadyH.cons rfl (fun K hK => ?_) AllReadyH.nil
        refine if_wanted rfl (wp_store_row 31 (.tmp 6) (.tmp 18) rfl N10 (ccells Y).toArray rfl rfl 31 _ (B10.out.rowOff (fun e => HNE.out e.symm) _) (size_of_crate Tryd.sizeCr _ HY.out.1) (by show (ccells noB).toArray.size = _; rw [ccells_size _ HY.out.1]; rfl) (ccells_one _) ?_)
        refine hK.out _ _ (Below.setRow hHeld _ _ H10.out) (fun hHeld => ?_)
        clear hK K
        try simp only [Act.put, zA, zB, zC]
        refine wpAnyH_ready (rs := [13]) (by kernel_rfl) (by simp) ?_
        refine AllReadyH.cons rfl (fun K hK => ?_) AllReadyH.nil
        refine if_wanted rfl ?_
        refine wp_assign0 rfl rfl ?_
        refine hK.out _ _ hHeld (fun hHeld => ?_)
        clear hK K
        try simp only [Act.put, zA, zB, zC, zD, zE, zF]
        exact wpAnyH_done (by kernel_rfl) ⟨N9, N10, rfl, rfl, (CBlk.setRow (Y := X) B9.out).rowOff HNE.out _, CBlk.setRow (Y := Y) (B10.out.rowOff (fun e => HNE.out e.symm) _), hHeld⟩ _
       refine AllReadyH.cons rfl (fun K hK => ?_) AllReadyH.nil
       refine if_wanted rfl ?_
       go_simp
       have bn : CBlk (x3.alloc (.cells #[.int .u8 0, .int .i16 0, .int .u8 0, .int .i16 0, .int .u8 0, .int .i16 0, .int .u8 0, .int .i16 0, .int .u8 0, .int .i16 0, .int .u8 0, .int .i16 0, .int .u8 0, .int .i16 0, .int .u8 0, .int .i16 0, .int .u8 0, .int .i16 0, .int .u8 0, .int .i16 0, .int .u8 0, .int .i16 0, .int .u8 0, .int .i16 0] 31)) x3.heap.size 31 noB := CBlk.new' rfl rfl
       have hn : W0.heap.size ≤ x3.heap.size := hHeld.size
       have hH2 : Below W0.heap.size W0 (x3.alloc (.cells #[.int .u8 0, .int .i16 0, .int .u8 0, .int .i16 0, .int .u8 0, .int .i16 0, .int .u8 0, .int .i16 0, .int .u8 0, .int .i16 0, .int .u8 0, .int .i16 0, .int .u8 0, .int .i16 0, .int .u8 0, .int .i16 0, .int .u8 0, .int .i16 0, .int .u8 0, .int .i16 0, .int .u8 0, .int .i16 0, .int .u8 0, .int .i16 0] 31)) := hHeld.alloc hHeld.size _
       obtain ⟨x6, hx⟩ : ∃ x, x3.alloc (.cells #[.int .u8 0, .int .i16 0, .int .u8 0, .int .i16 0, .int .u8 0, .int .i16 0, .int .u8 0, .int .i16 0, .int .u8 0, .int .i16 0, .int .u8 0, .int .i16 0, .int .u8 0, .int .i16 0, .int .u8 0, .int .i16 0, .int .u8 0, .int .i16 0, .int .u8 0, .int .i16 0, .int .u8 0, .int .i16 0, .int .u8 0, .int .i16 0] 31) = x := ⟨_, rfl⟩
       obtain ⟨N10, hN⟩ : ∃ N, x3.heap.size = N := ⟨_, rfl⟩
       rw [hx] at hH2 bn ⊢
       rw [hN] at hn bn ⊢
       have B10 := Lib.hid bn
       have H10 := Lib.hid hn
       clear bn hn hx hN hHeld
       refine hK.out _ _ hH2 (fun hHeld => ?_)
       clear hK K hH2
       try simp only [Act.put, zA, zB, zC, zD, zE, zF]
       refine wpAnyH_ready (rs := [9]) (by kernel_rfl) (by simp) ?_
       refine AllReadyH.cons rfl (fun K hK => ?_) AllReadyH.nil
       refine if_wanted rfl ?_
       go_simp
       have bn : CBlk (x6.alloc (.cells #[.int .u8 0, .int .i16 0, .int .u8 0, .int .i16 0, .int .u8 0, .int .i16 0, .int .u8 0, .int .i16 0, .int .u8 0, .int .i16 0, .int .u8 0, .int .i16 0, .int .u8 0, .int .i16 0, .int .u8 0, .int .i16 0, .int .u8 0, .int .i16 0, .int .u8 0, .int .i16 0, .int .u8 0, .int .i16 0, .int .u8 0, .int .i16 0] 31)) x6.heap.size 31 noB := CBlk.new' rfl rfl
       have hn : W0.heap.size ≤ x6.heap.size := hHeld.size
       have hH2 : Below W0.heap.size W0 (x6.alloc (.cells #[.int .u8 0, .int .i16 0, .int .u8 0, .int .i16 0, .int .u8 0, .int .i16 0, .int .u8 0, .int .i16 0, .int .u8 0, .int .i16 0, .int .u8 0, .int .i16 0, .int .u8 0, .int .i16 0, .int .u8 0, .int .i16 0, .int .u8 0, .int .i16 0, .int .u8 0, .int .i16 0, .int .u8 0, .int .i16 0, .int .u8 0, .int .i16 0] 31)) := hHeld.alloc hHeld.size _
       have C10 : Hid (CBlk (x6.alloc (.cells #[.int .u8 0, .int .i16 0, .int .u8 0, .int .i16 0, .int .u8 0, .int .i16 0, .int .u8 0, .int .i16 0, .int .u8 0, .int .i16 0, .int .u8 0, .int .i16 0, .int .u8 0, .int .i16 0, .int .u8 0, .int .i16 0, .int .u8 0, .int .i16 0, .int .u8 0, .int .i16 0, .int .u8 0, .int .i16 0, .int .u8 0, .int .i16 0] 31)) N10 31 noB) := B10.out.alloc _
       have hNE0 : N10 < x6.heap.size := B10.out.lt
       clear B10
       obtain ⟨x7, hx⟩ : ∃ x, x6.alloc (.cells #[.int .u8 0, .int .i16 0, .int .u8 0, .int .i16 0, .int .u8 0, .int .i16 0, .int .u8 0, .int .i16 0, .int .u8 0, .int .i16 0, .int .u8 0, .int .i16 0, .int .u8 0, .int .i16 0, .int .u8 0, .int .i16 0, .int .u8 0, .int .i16 0, .int .u8 0, .int .i16 0, .int .u8 0, .int .i16 0, .int .u8 0, .int .i16 0] 31) = x := ⟨_, rfl⟩
       obtain ⟨N9, hN⟩ : ∃ N, x6.heap.size = N := ⟨_, rfl⟩
       rw [hx] at hH2 bn C10 ⊢
       rw [hN] at hn bn hNE0 ⊢
       have B10 := C10
       clear C10
       have hNE := Lib.hid hNE0
       clear hNE0
       have B9 := Lib.hid bn
       have H9 := Lib.hid hn
       clear bn hn hx hN hHeld
       refine hK.out _ _ hH2 (fun hHeld => ?_)
       clear hK K hH2
       try simp only [Act.put, zA, zB, zC, zD, zE, zF]
       have HNE : Hid (N9 ≠ N10) := by have := hNE.out; show N9 ≠ N10; omega
       refine wpAnyH_ready (rs := [11]) (by kernel_rfl) (by simp) ?_
       refine AllReadyH.cons rfl (fun K hK => ?_) AllReadyH.nil
       refine if_wanted rfl (wp_store_row 31 (.tmp 5) (.tmp 17) rfl N9 (ccells X).toArray rfl rfl 31 _ B9.out (size_of_crate Tryd.sizeCr _ HX.out.1) (by show (ccells noB).toArray.size = _; rw [ccells_size _ HX.out.1]; rfl) (ccells_one _) ?_)
       refine hK.out _ _ (Below.setRow hHeld _ _ H9.out) (fun hHeld => ?_)
       clear hK K
       try simp only [Act.put, zA, zB, zC]
       refine wpAnyH_ready (rs := [12]) (by kernel_rfl) (by simp) ?_
       refine AllReadyH.cons rfl (fun K hK => ?_) AllReadyH.nil
       refine if_wanted rfl (wp_store_row 31 (.tmp 6) (.tmp 18) rfl N10 (ccells Y).toArray rfl rfl 31 _ (B10.out.rowOff (fun e => HNE.out e.symm) _) (size_of_crate Tryd.sizeCr _ HY.out.1) (by show (ccells noB).toArray.size = _; rw [ccells_size _ HY.out.1]; rfl) (ccells_one _) ?_)
       refine hK.out _ _ (Below.setRow hHeld _ _ H10.out) (fun hHeld => ?_)
       clear hK K
       try simp only [Act.put, zA, zB, zC]
       refine wpAnyH_ready (rs := [13]) (by kernel_rfl) (by simp) ?_
       refine AllReadyH.cons rfl (fun K hK => ?_) AllReadyH.nil
       refine if_wanted rfl ?_
       refine wp_assign0 rfl rfl ?_
       refine hK.out _ _ hHeld (fun hHeld => ?_)
       clear hK K
       try simp only [Act.put, zA, zB, zC, zD, zE, zF]
       exact wpAnyH_done (by kernel_rfl) ⟨N9, N10, rfl, rfl, (CBlk.setRow (Y := X) B9.out).rowOff HNE.out _, CBlk.setRow (Y := Y) (B10.out.rowOff (fun e => HNE.out e.symm) _), hHeld⟩ _
      refine AllReadyH.cons rfl (fun K hK => ?_) ?_
      ·skip
       refine if_wanted rfl ?_
       go_simp
       have bn : CBlk (x2.alloc (.cells #[.int .u8 0, .int .i16 0, .int .u8 0, .int .i16 0, .int .u8 0, .int .i16 0, .int .u8 0, .int .i16 0, .int .u8 0, .int .i16 0, .int .u8 0, .int .i16 0, .int .u8 0, .int .i16 0, .int .u8 0, .int .i16 0, .int .u8 0, .int .i16 0, .int .u8 0, .int .i16 0, .int .u8 0, .int .i16 0, .int .u8 0, .int .i16 0] 31)) x2.heap.size 31 noB := CBlk.new' rfl rfl
       have hn : W0.heap.size ≤ x2.heap.size := hHeld.size
       have hH2 : Below W0.heap.size W0 (x2.alloc (.cells #[.int .u8 0, .int .i16 0, .int .u8 0, .int .i16 0, .int .u8 0, .int .i16 0, .int .u8 0, .int .i16 0, .int .u8 0, .int .i16 0, .int .u8 0, .int .i16 0, .int .u8 0, .int .i16 0, .int .u8 0, .int .i16 0, .int .u8 0, .int .i16 0, .int .u8 0, .int .i16 0, .int .u8 0, .int .i16 0, .int .u8 0, .int .i16 0] 31)) := hHeld.alloc hHeld.size _
       obtain ⟨x8, hx⟩ : ∃ x, x2.alloc (.cells #[.int .u8 0, .int .i16 0, .int .u8 0, .int .i16 0, .int .u8 0, .int .i16 0, .int .u8 0, .int .i16 0, .int .u8 0, .int .i16 0, .int .u8 0, .int .i16 0, .int .u8 0, .int .i16 0, .int .u8 0, .int .i16 0, .int .u8 0, .int .i16 0, .int .u8 0, .int .i16 0, .int .u8 0, .int .i16 0, .int .u8 0, .int .i16 0] 31) = x := ⟨_, rfl⟩
       obtain ⟨N9, hN⟩ : ∃ N, x2.heap.size = N := ⟨_, rfl⟩
       rw [hx] at hH2 bn ⊢
       rw [hN] at hn bn ⊢
       have B9 := Lib.hid bn
       have H9 := Lib.hid hn
       clear bn hn hx hN hHeld
       refine hK.out _ _ hH2 (fun hHeld => ?_)
       clear hK K hH2
       try simp only [Act.put, zA, zB, zC, zD, zE, zF]
       refine wpAnyH_ready (rs := [4, 10]) (by kernel_rfl) (by simp) ?_
       refine AllReadyH.cons rfl (fun K hK => ?_) ?_
       ·skip
        refine if_wanted rfl ?_
        go_simp
        refine (HS.out _).mono ?_
        rintro e x9 ⟨rfl, hb⟩
        have hH2 : Below W0.heap.size W0 x9 := hHeld.trans (hb.mono hHeld.size)
        have C9 : Hid (CBlk x9 N9 31 noB) := B9.out.below hb B9.out.lt
        clear B9
        have B9 := C9
        clear C9
        clear hb hHeld
        dsimp only
        refine hK.out _ _ hH2 (fun hHeld => ?_)
        clear hK K hH2
        try simp only [Act.put, zA, zB, zC, zD, zE, zF]
        refine wpAnyH_take (i := 5) (v := .tuple #[.agg (ccells X).toArray, .agg (ccells Y).toArray, .int .i64 c]) rfl (by kernel_rfl) (by kernel_rfl) (by kernel_rfl) (fun _ _ _ ⟨_, _, h, _⟩ => nomatch h) (Or.inl ⟨by rfl, fun w _ => by go_simp⟩) (by assumption) ?_
        try simp only [Act.put, zA, zB, zC, zD, zE, zF]
        refine wpAnyH_take (i := 6) (v := .agg (ccells X).toArray) rfl (by kernel_rfl) (by kernel_rfl) (by kernel_rfl) (fun _ _ _ ⟨_, _, h, _⟩ => nomatch h) (Or.inl ⟨by rfl, fun w _ => by go_simp⟩) (by assumption) ?_
        try simp only [Act.put, zA, zB, zC, zD, zE, zF]
        refine wpAnyH_take (i := 7) (v := .agg (ccells Y).toArray) rfl (by kernel_rfl) (by kernel_rfl) (by kernel_rfl) (fun _ _ _ ⟨_, _, h, _⟩ => nomatch h) (Or.inl ⟨by rfl, fun w _ => by go_simp⟩) (by assumption) ?_
        try simp only [Act.put, zA, zB, zC, zD, zE, zF]
        refine wpAnyH_take (i := 8) (v := .int .i64 c) rfl (by kernel_rfl) (by kernel_rfl) (by kernel_rfl) (fun _ _ _ ⟨_, _, h, _⟩ => nomatch h) (Or.inl ⟨by rfl, fun w _ => by go_simp⟩) (by assumption) ?_
        try simp only [Act.put, zA, zB, zC, zD, zE, zF]
        refine wpAnyH_ready (rs := [10]) (by kernel_rfl) (by simp) ?_
        refine AllReadyH.cons rfl (fun K hK => ?_) AllReadyH.nil
        refine if_wanted rfl ?_
        go_simp
        have bn : CBlk (x9.alloc (.cells #[.int .u8 0, .int .i16 0, .int .u8 0, .int .i16 0, .int .u8 0, .int .i16 0, .int .u8 0, .int .i16 0, .int .u8 0, .int .i16 0, .int .u8 0, .int .i16 0, .int .u8 0, .int .i16 0, .int .u8 0, .int .i16 0, .int .u8 0, .int .i16 0, .int .u8 0, .int .i16 0, .int .u8 0, .int .i16 0, .int .u8 0, .int .i16 0] 31)) x9.heap.size 31 noB := CBlk.new' rfl rfl
        have hn : W0.heap.size ≤ x9.heap.size := hHeld.size
        have hH2 : Below W0.heap.size W0 (x9.alloc (.cells #[.int .u8 0, .int .i16 0, .int .u8 0, .int .i16 0, .int .u8 0, .int .i16 0, .int .u8 0, .int .i16 0, .int .u8 0, .int .i16 0, .int .u8 0, .int .i16 0, .int .u8 0, .int .i16 0, .int .u8 0, .int .i16 0, .int .u8 0, .int .i16 0, .int .u8 0, .int .i16 0, .int .u8 0, .int .i16 0, .int .u8 0, .int .i16 0] 31)) := hHeld.alloc hHeld.size _
        have C9 : Hid (CBlk (x9.alloc (.cells #[.int .u8 0, .int .i16 0, .int .u8 0, .int .i16 0, .int .u8 0, .int .i16 0, .int .u8 0, .int .i16 0, .int .u8 0, .int .i16 0, .int .u8 0, .int .i16 0, .int .u8 0, .int .i16 0, .int .u8 0, .int .i16 0, .int .u8 0, .int .i16 0, .int .u8 0, .int .i16 0, .int .u8 0, .int .i16 0, .int .u8 0, .int .i16 0] 31)) N9 31 noB) := B9.out.alloc _
        have hNE0 : N9 < x9.heap.size := B9.out.lt
        clear B9
        obtain ⟨x10, hx⟩ : ∃ x, x9.alloc (.cells #[.int .u8 0, .int .i16 0, .int .u8 0, .int .i16 0, .int .u8 0, .int .i16 0, .int .u8 0, .int .i16 0, .int .u8 0, .int .i16 0, .int .u8 0, .int .i16 0, .int .u8 0, .int .i16 0, .int .u8 0, .int .i16 0, .int .u8 0, .int .i16 0, .int .u8 0, .int .i16 0, .int .u8 0, .int .i16 0, .int .u8 0, .int .i16 0] 31) = x := ⟨_, rfl⟩
        obtain ⟨N10, hN⟩ : ∃ N, x9.heap.size = N := ⟨_, rfl⟩
        rw [hx] at hH2 bn C9 ⊢
        rw [hN] at hn bn hNE0 ⊢
        have B9 := C9
        clear C9
        have hNE := Lib.hid hNE0
        clear hNE0
        have B10 := Lib.hid bn
        have H10 := Lib.hid hn
        clear bn hn hx hN hHeld
        refine hK.out _ _ hH2 (fun hHeld => ?_)
        clear hK K hH2
        try simp only [Act.put, zA, zB, zC, zD, zE, zF]
        have HNE : Hid (N9 ≠ N10) := by have := hNE.out; show N9 ≠ N10; omega
        refine wpAnyH_ready (rs := [11]) (by kernel_rfl) (by simp) ?_
        refine AllReadyH.cons rfl (fun K hK => ?_) AllReadyH.nil
        refine if_wanted rfl (wp_store_row 31 (.tmp 5) (.tmp 17) rfl N9 (ccells X).toArray rfl rfl 31 _ B9.out (size_of_crate Tryd.sizeCr _ HX.out.1) (by show (ccells noB).toArray.size = _; rw [ccells_size _ HX.out.1]; rfl) (ccells_one _) ?_)
        refine hK.out _ _ (Below.setRow hHeld _ _ H9.out) (fun hHeld => ?_)
        clear hK K
        try simp only [Act.put, zA, zB, zC]
        refine wpAnyH_ready (rs := [12]) (by kernel_rfl) (by simp) ?_
        refine AllReadyH.cons rfl (fun K hK => ?_) AllReadyH.nil
        refine if_wanted rfl (wp_store_row 31 (.tmp 6) (.tmp 18) rfl N10 (ccells Y).toArray rfl rfl 31 _ (B10.out.rowOff (fun e => HNE.out e.symm) _) (size_of_crate Tryd.sizeCr _ HY.out.1) (by show (ccells noB).toArray.size = _; rw [ccells_size _ HY.out.1]; rfl) (ccells_one _) ?_)
        refine hK.out _ _ (Below.setRow hHeld _ _ H10.out) (fun hHeld => ?_)
        clear hK K
        try simp only [Act.put, zA, zB, zC]
        refine wpAnyH_ready (rs := [13]) (by kernel_rfl) (by simp) ?_
        refine AllReadyH.cons rfl (fun K hK => ?_) AllReadyH.nil
        refine if_wanted rfl ?_
        refine wp_assign0 rfl rfl ?_
        refine hK.out _ _ hHeld (fun hHeld => ?_)
        clear hK K
        try simp only [Act.put, zA, zB, zC, zD, zE, zF]
        exact wpAnyH_done (by kernel_rfl) ⟨N9, N10, rfl, rfl, (CBlk.setRow (Y := X) B9.out).rowOff HNE.out _, CBlk.setRow (Y := Y) (B10.out.rowOff (fun e => HNE.out e.symm) _), hHeld⟩ _
       refine AllReadyH.cons rfl (fun K hK => ?_) AllReadyH.nil
       refine if_wanted rfl ?_
       go_simp
       have bn : CBlk (x8.alloc (.cells #[.int .u8 0, .int .i16 0, .int .u8 0, .int .i16 0, .int .u8 0, .int .i16 0, .int .u8 0, .int .i16 0, .int .u8 0, .int .i16 0, .int .u8 0, .int .i16 0, .int .u8 0, .int .i16 0, .int .u8 0, .int .i16 0, .int .u8 0, .int .i16 0, .int .u8 0, .int .i16 0, .int .u8 0, .int .i16 0, .int .u8 0, .int .i16 0] 31)) x8.heap.size 31 noB := CBlk.new' rfl rfl
       have hn : W0.heap.size ≤ x8.heap.size := hHeld.size
       have hH2 : Below W0.heap.size W0 (x8.alloc (.cells #[.int .u8 0, .int .i16 0, .int .u8 0, .int .i16 0, .int .u8 0, .int .i16 0, .int .u8 0, .int .i16 0, .int .u8 0, .int .i16 0, .int .u8 0, .int .i16 0, .int .u8 0, .int .i16 0, .int .u8 0, .int .i16 0, .int .u8 0, .int .i16 0, .int .u8 0, .int .i16 0, .int .u8 0, .int .i16 0, .int .u8 0, .int .i16 0] 31)) := hHeld.alloc hHeld.size _
       have C9 : Hid (CBlk (x8.alloc (.cells #[.int .u8 0, .int .i16 0, .int .u8 0, .int .i16 0, .int .u8 0, .int .i16 0, .int .u8 0, .int .i16 0, .int .u8 0, .int .i16 0, .int .u8 0, .int .i16 0, .int .u8 0, .int .i16 0, .int .u8 0, .int .i16 0, .int .u8 0, .int .i16 0, .int .u8 0, .int .i16 0, .int .u8 0, .int .i16 0, .int .u8 0, .int .i16 0] 31)) N9 31 noB) := B9.out.alloc _
       have hNE0 : N9 < x8.heap.size := B9.out.lt
       clear B9
       obtain ⟨x11, hx⟩ : ∃ x, x8.alloc (.cells #[.int .u8 0, .int .i16 0, .int .u8 0, .int .i16 0, .int .u8 0, .int .i16 0, .int .u8 0, .int .i16 0, .int .u8 0, .int .i16 0, .int .u8 0, .int .i16 0, .int .u8 0, .int .i16 0, .int .u8 0, .int .i16 0, .int .u8 0, .int .i16 0, .int .u8 0, .int .i16 0, .int .u8 0, .int .i16 0, .int .u8 0, .int .i16 0] 31) = x := ⟨_, rfl⟩
       obtain ⟨N10, hN⟩ : ∃ N, x8.heap.size = N := ⟨_, rfl⟩
       rw [hx] at hH2 bn C9 ⊢
       rw [hN] at hn bn hNE0 ⊢
       have B9 := C9
       clear C9
       have hNE := Lib.hid hNE0
       clear hNE0
       have B10 := Lib.hid bn
       have H10 := Lib.hid hn
       clear bn hn hx hN hHeld
       refine hK.out _ _ hH2 (fun hHeld => ?_)
       clear hK K hH2
       try simp only [Act.put, zA, zB, zC, zD, zE, zF]
       refine wpAnyH_ready (rs := [4]) (by kernel_rfl) (by simp) ?_
       refine AllReadyH.cons rfl (fun K hK => ?_) AllReadyH.nil
       refine if_wanted rfl ?_
       go_simp
       refine (HS.out _).mono ?_
       rintro e x12 ⟨rfl, hb⟩
       have hH2 : Below W0.heap.size W0 x12 := hHeld.trans (hb.mono hHeld.size)
       have C9 : Hid (CBlk x12 N9 31 noB) := B9.out.below hb B9.out.lt
       clear B9
       have B9 := C9
       clear C9
       have C10 : Hid (CBlk x12 N10 31 noB) := B10.out.below hb B10.out.lt
       clear B10
       have B10 := C10
       clear C10
       clear hb hHeld
       dsimp only
       refine hK.out _ _ hH2 (fun hHeld => ?_)
       clear hK K hH2
       try simp only [Act.put, zA, zB, zC, zD, zE, zF]
       refine wpAnyH_take (i := 5) (v := .tuple #[.agg (ccells X).toArray, .agg (ccells Y).toArray, .int .i64 c]) rfl (by kernel_rfl) (by kernel_rfl) (by kernel_rfl) (fun _ _ _ ⟨_, _, h, _⟩ => nomatch h) (Or.inl ⟨by rfl, fun w _ => by go_simp⟩) (by assumption) ?_
       try simp only [Act.put, zA, zB, zC, zD, zE, zF]
       refine wpAnyH_take (i := 6) (v := .agg (ccells X).toArray) rfl (by kernel_rfl) (by kernel_rfl) (by kernel_rfl) (fun _ _ _ ⟨_, _, h, _⟩ => nomatch h) (Or.inl ⟨by rfl, fun w _ => by go_simp⟩) (by assumption) ?_
       try simp only [Act.put, zA, zB, zC, zD, zE, zF]
       refine wpAnyH_take (i := 7) (v := .agg (ccells Y).toArray) rfl (by kernel_rfl) (by kernel_rfl) (by kernel_rfl) (fun _ _ _ ⟨_, _, h, _⟩ => nomatch h) (Or.inl ⟨by rfl, fun w _ => by go_simp⟩) (by assumption) ?_
       try simp only [Act.put, zA, zB, zC, zD, zE, zF]
       refine wpAnyH_take (i := 8) (v := .int .i64 c) rfl (by kernel_rfl) (by kernel_rfl) (by kernel_rfl) (fun _ _ _ ⟨_, _, h, _⟩ => nomatch h) (Or.inl ⟨by rfl, fun w _ => by go_simp⟩) (by assumption) ?_
       try simp only [Act.put, zA, zB, zC, zD, zE, zF]
       have HNE : Hid (N9 ≠ N10) := by have := hNE.out; show N9 ≠ N10; omega
       refine wpAnyH_ready (rs := [11]) (by kernel_rfl) (by simp) ?_
       refine AllReadyH.cons rfl (fun K hK => ?_) AllReadyH.nil
       refine if_wanted rfl (wp_store_row 31 (.tmp 5) (.tmp 17) rfl N9 (ccells X).toArray rfl rfl 31 _ B9.out (size_of_crate Tryd.sizeCr _ HX.out.1) (by show (ccells noB).toArray.size = _; rw [ccells_size _ HX.out.1]; rfl) (ccells_one _) ?_)
       refine hK.out _ _ (Below.setRow hHeld _ _ H9.out) (fun hHeld => ?_)
       clear hK K
       try simp only [Act.put, zA, zB, zC]
       refine wpAnyH_ready (rs := [12]) (by kernel_rfl) (by simp) ?_
       refine AllReadyH.cons rfl (fun K hK => ?_) AllReadyH.nil
       refine if_wanted rfl (wp_store_row 31 (.tmp 6) (.tmp 18) rfl N10 (ccells Y).toArray rfl rfl 31 _ (B10.out.rowOff (fun e => HNE.out e.symm) _) (size_of_crate Tryd.sizeCr _ HY.out.1) (by show (ccells noB).toArray.size = _; rw [ccells_size _ HY.out.1]; rfl) (ccells_one _) ?_)
       refine hK.out _ _ (Below.setRow hHeld _ _ H10.out) (fun hHeld => ?_)
       clear hK K
       try simp only [Act.put, zA, zB, zC]
       refine wpAnyH_ready (rs := [13]) (by kernel_rfl) (by simp) ?_
       refine AllReadyH.cons rfl (fun K hK => ?_) AllReadyH.nil
       refine if_wanted rfl ?_
       refine wp_assign0 rfl rfl ?_
       refine hK.out _ _ hHeld (fun hHeld => ?_)
       clear hK K
       try simp only [Act.put, zA, zB, zC, zD, zE, zF]
       exact wpAnyH_done (by kernel_rfl) ⟨N9, N10, rfl, rfl, (CBlk.setRow (Y := X) B9.out).rowOff HNE.out _, CBlk.setRow (Y := Y) (B10.out.rowOff (fun e => HNE.out e.symm) _), hHeld⟩ _
      refine AllReadyH.cons rfl (fun K hK => ?_) AllReadyH.nil
      refine if_wanted rfl ?_
      go_simp
      have bn : CBlk (x2.alloc (.cells #[.int .u8 0, .int .i16 0, .int .u8 0, .int .i16 0, .int .u8 0, .int .i16 0, .int .u8 0, .int .i16 0, .int .u8 0, .int .i16 0, .int .u8 0, .int .i16 0, .int .u8 0, .int .i16 0, .int .u8 0, .int .i16 0, .int .u8 0, .int .i16 0, .int .u8 0, .int .i16 0, .int .u8 0, .int .i16 0, .int .u8 0, .int .i16 0] 31)) x2.heap.size 31 noB := CBlk.new' rfl rfl
      have hn : W0.heap.size ≤ x2.heap.size := hHeld.size
      have hH2 : Below W0.heap.size W0 (x2.alloc (.cells #[.int .u8 0, .int .i16 0, .int .u8 0, .int .i16 0, .int .u8 0, .int .i16 0, .int .u8 0, .int .i16 0, .int .u8 0, .int .i16 0, .int .u8 0, .int .i16 0, .int .u8 0, .int .i16 0, .int .u8 0, .int .i16 0, .int .u8 0, .int .i16 0, .int .u8 0, .int .i16 0, .int .u8 0, .int .i16 0, .int .u8 0, .int .i16 0] 31)) := hHeld.alloc hHeld.size _
      obtain ⟨x13, hx⟩ : ∃ x, x2.alloc (.cells #[.int .u8 0, .int .i16 0, .int .u8 0, .int .i16 0, .int .u8 0, .int .i16 0, .int .u8 0, .int .i16 0, .int .u8 0, .int .i16 0, .int .u8 0, .int .i16 0, .int .u8 0, .int .i16 0, .int .u8 0, .int .i16 0, .int .u8 0, .int .i16 0, .int .u8 0, .int .i16 0, .int .u8 0, .int .i16 0, .int .u8 0, .int .i16 0] 31) = x := ⟨_, rfl⟩
      obtain ⟨N10, hN⟩ : ∃ N, x2.heap.size = N := ⟨_, rfl⟩
      rw [hx] at hH2 bn ⊢
      rw [hN] at hn bn ⊢
      have B10 := Lib.hid bn
      have H10 := Lib.hid hn
      clear bn hn hx hN hHeld
      refine hK.out _ _ hH2 (fun hHeld => ?_)
      clear hK K hH2
      try simp only [Act.put, zA, zB, zC, zD, zE, zF]
      refine wpAnyH_ready (rs := [4, 9]) (by kernel_rfl) (by simp) ?_
      refine AllReadyH.cons rfl (fun K hK => ?_) ?_
      ·skip
       refine if_wanted rfl ?_
       go_simp
       refine (HS.out _).mono ?_
       rintro e x14 ⟨rfl, hb⟩
       have hH2 : Below W0.heap.size W0 x14 := hHeld.trans (hb.mono hHeld.size)
       have C10 : Hid (CBlk x14 N10 31 noB) := B10.out.below hb B10.out.lt
       clear B10
       have B10 := C10
       clear C10
       clear hb hHeld
       dsimp only
       refine hK.out _ _ hH2 (fun hHeld => ?_)
       clear hK K hH2
       try simp only [Act.put, zA, zB, zC, zD, zE, zF]
       refine wpAnyH_take (i := 5) (v := .tuple #[.agg (ccells X).toArray, .agg (ccells Y).toArray, .int .i64 c]) rfl (by kernel_rfl) (by kernel_rfl) (by kernel_rfl) (fun _ _ _ ⟨_, _, h, _⟩ => nomatch h) (Or.inl ⟨by rfl, fun w _ => by go_simp⟩) (by assumption) ?_
       try simp only [Act.put, zA, zB, zC, zD, zE, zF]
       refine wpAnyH_take (i := 6) (v := .agg (ccells X).toArray) rfl (by kernel_rfl) (by kernel_rfl) (by kernel_rfl) (fun _ _ _ ⟨_, _, h, _⟩ => nomatch h) (Or.inl ⟨by rfl, fun w _ => by go_simp⟩) (by assumption) ?_
       try simp only [Act.put, zA, zB, zC, zD, zE, zF]
       refine wpAnyH_take (i := 7) (v := .agg (ccells Y).toArray) rfl (by kernel_rfl) (by kernel_rfl) (by kernel_rfl) (fun _ _ _ ⟨_, _, h, _⟩ => nomatch h) (Or.inl ⟨by rfl, fun w _ => by go_simp⟩) (by assumption) ?_
       try simp only [Act.put, zA, zB, zC, zD, zE, zF]
       refine wpAnyH_take (i := 8) (v := .int .i64 c) rfl (by kernel_rfl) (by kernel_rfl) (by kernel_rfl) (fun _ _ _ ⟨_, _, h, _⟩ => nomatch h) (Or.inl ⟨by rfl, fun w _ => by go_simp⟩) (by assumption) ?_
       try simp only [Act.put, zA, zB, zC, zD, zE, zF]
       refine wpAnyH_ready (rs := [9]) (by kernel_rfl) (by simp) ?_
       refine AllReadyH.cons rfl (fun K hK => ?_) AllReadyH.nil
       refine if_wanted rfl ?_
       go_simp
       have bn : CBlk (x14.alloc (.cells #[.int .u8 0, .int .i16 0, .int .u8 0, .int .i16 0, .int .u8 0, .int .i16 0, .int .u8 0, .int .i16 0, .int .u8 0, .int .i16 0, .int .u8 0, .int .i16 0, .int .u8 0, .int .i16 0, .int .u8 0, .int .i16 0, .int .u8 0, .int .i16 0, .int .u8 0, .int .i16 0, .int .u8 0, .int .i16 0, .int .u8 0, .int .i16 0] 31)) x14.heap.size 31 noB := CBlk.new' rfl rfl
       have hn : W0.heap.size ≤ x14.heap.size := hHeld.size
       have hH2 : Below W0.heap.size W0 (x14.alloc (.cells #[.int .u8 0, .int .i16 0, .int .u8 0, .int .i16 0, .int .u8 0, .int .i16 0, .int .u8 0, .int .i16 0, .int .u8 0, .int .i16 0, .int .u8 0, .int .i16 0, .int .u8 0, .int .i16 0, .int .u8 0, .int .i16 0, .int .u8 0, .int .i16 0, .int .u8 0, .int .i16 0, .int .u8 0, .int .i16 0, .int .u8 0, .int .i16 0] 31)) := hHeld.alloc hHeld.size _
       have C10 : Hid (CBlk (x14.alloc (.cells #[.int .u8 0, .int .i16 0, .int .u8 0, .int .i16 0, .int .u8 0, .int .i16 0, .int .u8 0, .int .i16 0, .int .u8 0, .int .i16 0, .int .u8 0, .int .i16 0, .int .u8 0, .int .i16 0, .int .u8 0, .int .i16 0, .int .u8 0, .int .i16 0, .int .u8 0, .int .i16 0, .int .u8 0, .int .i16 0, .int .u8 0, .int .i16 0] 31)) N10 31 noB) := B10.out.alloc _
       have hNE0 : N10 < x14.heap.size := B10.out.lt
       clear B10
       obtain ⟨x15, hx⟩ : ∃ x, x14.alloc (.cells #[.int .u8 0, .int .i16 0, .int .u8 0, .int .i16 0, .int .u8 0, .int .i16 0, .int .u8 0, .int .i16 0, .int .u8 0, .int .i16 0, .int .u8 0, .int .i16 0, .int .u8 0, .int .i16 0, .int .u8 0, .int .i16 0, .int .u8 0, .int .i16 0, .int .u8 0, .int .i16 0, .int .u8 0, .int .i16 0, .int .u8 0, .int .i16 0] 31) = x := ⟨_, rfl⟩
       obtain ⟨N9, hN⟩ : ∃ N, x14.heap.size = N := ⟨_, rfl⟩
       rw [hx] at hH2 bn C10 ⊢
       rw [hN] at hn bn hNE0 ⊢
       have B10 := C10
       clear C10
       have hNE := Lib.hid hNE0
       clear hNE0
       have B9 := Lib.hid bn
       have H9 := Lib.hid hn
       clear bn hn hx hN hHeld
       refine hK.out _ _ hH2 (fun hHeld => ?_)
       clear hK K hH2
       try simp only [Act.put, zA, zB, zC, zD, zE, zF]
       have HNE : Hid (N9 ≠ N10) := by have := hNE.out; show N9 ≠ N10; omega
       refine wpAnyH_ready (rs := [11]) (by kernel_rfl) (by simp) ?_
       refine AllReadyH.cons rfl (fun K hK => ?_) AllReadyH.nil
       refine if_wanted rfl (wp_store_row 31 (.tmp 5) (.tmp 17) rfl N9 (ccells X).toArray rfl rfl 31 _ B9.out (size_of_crate Tryd.sizeCr _ HX.out.1) (by show (ccells noB).toArray.size = _; rw [ccells_size _ HX.out.1]; rfl) (ccells_one _) ?_)
       refine hK.out _ _ (Below.setRow hHeld _ _ H9.out) (fun hHeld => ?_)
       clear hK K
       try simp only [Act.put, zA, zB, zC]
       refine wpAnyH_ready (rs := [12]) (by kernel_rfl) (by simp) ?_
       refine AllReadyH.cons rfl (fun K hK => ?_) AllReadyH.nil
       refine if_wanted rfl (wp_store_row 31 (.tmp 6) (.tmp 18) rfl N10 (ccells Y).toArray rfl rfl 31 _ (B10.out.rowOff (fun e => HNE.out e.symm) _) (size_of_crate Tryd.sizeCr _ HY.out.1) (by show (ccells noB).toArray.size = _; rw [ccells_size _ HY.out.1]; rfl) (ccells_one _) ?_)
       refine hK.out _ _ (Below.setRow hHeld _ _ H10.out) (fun hHeld => ?_)
       clear hK K
       try simp only [Act.put, zA, zB, zC]
       refine wpAnyH_ready (rs := [13]) (by kernel_rfl) (by simp) ?_
       refine AllReadyH.cons rfl (fun K hK => ?_) AllReadyH.nil
       refine if_wanted rfl ?_
       refine wp_assign0 rfl rfl ?_
       refine hK.out _ _ hHeld (fun hHeld => ?_)
       clear hK K
       try simp only [Act.put, zA, zB, zC, zD, zE, zF]
       exact wpAnyH_done (by kernel_rfl) ⟨N9, N10, rfl, rfl, (CBlk.setRow (Y := X) B9.out).rowOff HNE.out _, CBlk.setRow (Y := Y) (B10.out.rowOff (fun e => HNE.out e.symm) _), hHeld⟩ _
      refine AllReadyH.cons rfl (fun K hK => ?_) AllReadyH.nil
      refine if_wanted rfl ?_
      go_simp
      have bn : CBlk (x13.alloc (.cells #[.int .u8 0, .int .i16 0, .int .u8 0, .int .i16 0, .int .u8 0, .int .i16 0, .int .u8 0, .int .i16 0, .int .u8 0, .int .i16 0, .int .u8 0, .int .i16 0, .int .u8 0, .int .i16 0, .int .u8 0, .int .i16 0, .int .u8 0, .int .i16 0, .int .u8 0, .int .i16 0, .int .u8 0, .int .i16 0, .int .u8 0, .int .i16 0] 31)) x13.heap.size 31 noB := CBlk.new' rfl rfl
      have hn : W0.heap.size ≤ x13.heap.size := hHeld.size
      have hH2 : Below W0.heap.size W0 (x13.alloc (.cells #[.int .u8 0, .int .i16 0, .int .u8 0, .int .i16 0, .int .u8 0, .int .i16 0, .int .u8 0, .int .i16 0, .int .u8 0, .int .i16 0, .int .u8 0, .int .i16 0, .int .u8 0, .int .i16 0, .int .u8 0, .int .i16 0, .int .u8 0, .int .i16 0, .int .u8 0, .int .i16 0, .int .u8 0, .int .i16 0, .int .u8 0, .int .i16 0] 31)) := hHeld.alloc hHeld.size _
      have C10 : Hid (CBlk (x13.alloc (.cells #[.int .u8 0, .int .i16 0, .int .u8 0, .int .i16 0, .int .u8 0, .int .i16 0, .int .u8 0, .int .i16 0, .int .u8 0, .int .i16 0, .int .u8 0, .int .i16 0, .int .u8 0, .int .i16 0, .int .u8 0, .int .i16 0, .int .u8 0, .int .i16 0, .int .u8 0, .int .i16 0, .int .u8 0, .int .i16 0, .int .u8 0, .int .i16 0] 31)) N10 31 noB) := B10.out.alloc _
      have hNE0 : N10 < x13.heap.size := B10.out.lt
      clear B10
      obtain ⟨x16, hx⟩ : ∃ x, x13.alloc (.cells #[.int .u8 0, .int .i16 0, .int .u8 0, .int .i16 0, .int .u8 0, .int .i16 0, .int .u8 0, .int .i16 0, .int .u8 0, .int .i16 0, .int .u8 0, .int .i16 0, .int .u8 0, .int .i16 0, .int .u8 0, .int .i16 0, .int .u8 0, .int .i16 0, .int .u8 0, .int .i16 0, .int .u8 0, .int .i16 0, .int .u8 0, .int .i16 0] 31) = x := ⟨_, rfl⟩
      obtain ⟨N9, hN⟩ : ∃ N, x13.heap.size = N := ⟨_, rfl⟩
      rw [hx] at hH2 bn C10 ⊢
      rw [hN] at hn bn hNE0 ⊢
      have B10 := C10
      clear C10
      have hNE := Lib.hid hNE0
      clear hNE0
      have B9 := Lib.hid bn
      have H9 := Lib.hid hn
      clear bn hn hx hN hHeld
      refine hK.out _ _ hH2 (fun hHeld => ?_)
      clear hK K hH2
      try simp only [Act.put, zA, zB, zC, zD, zE, zF]
      refine wpAnyH_ready (rs := [4]) (by kernel_rfl) (by simp) ?_
      refine AllReadyH.cons rfl (fun K hK => ?_) AllReadyH.nil
      refine if_wanted rfl ?_
      go_simp
      refine (HS.out _).mono ?_
      rintro e x17 ⟨rfl, hb⟩
      have hH2 : Below W0.heap.size W0 x17 := hHeld.trans (hb.mono hHeld.size)
      have C10 : Hid (CBlk x17 N10 31 noB) := B10.out.below hb B10.out.lt
      clear B10
      have B10 := C10
      clear C10
      have C9 : Hid (CBlk x17 N9 31 noB) := B9.out.below hb B9.out.lt
      clear B9
      have B9 := C9
      clear C9
      clear hb hHeld
      dsimp only
      refine hK.out _ _ hH2 (fun hHeld => ?_)
      clear hK K hH2
      try simp only [Act.put, zA, zB, zC, zD, zE, zF]
      refine wpAnyH_take (i := 5) (v := .tuple #[.agg (ccells X).toArray, .agg (ccells Y).toArray, .int .i64 c]) rfl (by kernel_rfl) (by kernel_rfl) (by kernel_rfl) (fun _ _ _ ⟨_, _, h, _⟩ => nomatch h) (Or.inl ⟨by rfl, fun w _ => by go_simp⟩) (by assumption) ?_
      try simp only [Act.put, zA, zB, zC, zD, zE, zF]
      refine wpAnyH_take (i := 6) (v := .agg (ccells X).toArray) rfl (by kernel_rfl) (by kernel_rfl) (by kernel_rfl) (fun _ _ _ ⟨_, _, h, _⟩ => nomatch h) (Or.inl ⟨by rfl, fun w _ => by go_simp⟩) (by assumption) ?_
      try simp only [Act.put, zA, zB, zC, zD, zE, zF]
      refine wpAnyH_take (i := 7) (v := .agg (ccells Y).toArray) rfl (by kernel_rfl) (by kernel_rfl) (by kernel_rfl) (fun _ _ _ ⟨_, _, h, _⟩ => nomatch h) (Or.inl ⟨by rfl, fun w _ => by go_simp⟩) (by assumption) ?_
      try simp only [Act.put, zA, zB, zC, zD, zE, zF]
      refine wpAnyH_take (i := 8) (v := .int .i64 c) rfl (by kernel_rfl) (by kernel_rfl) (by kernel_rfl) (fun _ _ _ ⟨_, _, h, _⟩ => nomatch h) (Or.inl ⟨by rfl, fun w _ => by go_simp⟩) (by assumption) ?_
      try simp only [Act.put, zA, zB, zC, zD, zE, zF]
      have HNE : Hid (N9 ≠ N10) := by have := hNE.out; show N9 ≠ N10; omega
      refine wpAnyH_ready (rs := [11]) (by kernel_rfl) (by simp) ?_
      refine AllReadyH.cons rfl (fun K hK => ?_) AllReadyH.nil
      refine if_wanted rfl (wp_store_row 31 (.tmp 5) (.tmp 17) rfl N9 (ccells X).toArray rfl rfl 31 _ B9.out (size_of_crate Tryd.sizeCr _ HX.out.1) (by show (ccells noB).toArray.size = _; rw [ccells_size _ HX.out.1]; rfl) (ccells_one _) ?_)
      refine hK.out _ _ (Below.setRow hHeld _ _ H9.out) (fun hHeld => ?_)
      clear hK K
      try simp only [Act.put, zA, zB, zC]
      refine wpAnyH_ready (rs := [12]) (by kernel_rfl) (by simp) ?_
      refine AllReadyH.cons rfl (fun K hK => ?_) AllReadyH.nil
      refine if_wanted rfl (wp_store_row 31 (.tmp 6) (.tmp 18) rfl N10 (ccells Y).toArray rfl rfl 31 _ (B10.out.rowOff (fun e => HNE.out e.symm) _) (size_of_crate Tryd.sizeCr _ HY.out.1) (by show (ccells noB).toArray.size = _; rw [ccells_size _ HY.out.1]; rfl) (ccells_one _) ?_)
      refine hK.out _ _ (Below.setRow hHeld _ _ H10.out) (fun hHeld => ?_)
      clear hK K
      try simp only [Act.put, zA, zB, zC]
      refine wpAnyH_ready (rs := [13]) (by kernel_rfl) (by simp) ?_
      refine AllReadyH.cons rfl (fun K hK => ?_) AllReadyH.nil
      refine if_wanted rfl ?_
      refine wp_assign0 rfl rfl ?_
      refine hK.out _ _ hHeld (fun hHeld => ?_)
      clear hK K
      try simp only [Act.put, zA, zB, zC, zD, zE, zF]
      exact wpAnyH_done (by kernel_rfl) ⟨N9, N10, rfl, rfl, (CBlk.setRow (Y := X) B9.out).rowOff HNE.out _, CBlk.setRow (Y := Y) (B10.out.rowOff (fun e => HNE.out e.symm) _), hHeld⟩ _
     refine AllReadyH.cons rfl (fun K hK => ?_) ?_
     ·skip
      refine if_wanted rfl ?_
      go_simp
      have bn : CBlk (x1.alloc (.cells #[.int .u8 0, .int .i16 0, .int .u8 0, .int .i16 0, .int .u8 0, .int .i16 0, .int .u8 0, .int .i16 0, .int .u8 0, .int .i16 0, .int .u8 0, .int .i16 0, .int .u8 0, .int .i16 0, .int .u8 0, .int .i16 0, .int .u8 0, .int .i16 0, .int .u8 0, .int .i16 0, .int .u8 0, .int .i16 0, .int .u8 0, .int .i16 0] 31)) x1.heap.size 31 noB := CBlk.new' rfl rfl
      have hn : W0.heap.size ≤ x1.heap.size := hHeld.size
      have hH2 : Below W0.heap.size W0 (x1.alloc (.cells #[.int .u8 0, .int .i16 0, .int .u8 0, .int .i16 0, .int .u8 0, .int .i16 0, .int .u8 0, .int .i16 0, .int .u8 0, .int .i16 0, .int .u8 0, .int .i16 0, .int .u8 0, .int .i16 0, .int .u8 0, .int .i16 0, .int .u8 0, .int .i16 0, .int .u8 0, .int .i16 0, .int .u8 0, .int .i16 0, .int .u8 0, .int .i16 0] 31)) := hHeld.alloc hHeld.size _
      obtain ⟨x18, hx⟩ : ∃ x, x1.alloc (.cells #[.int .u8 0, .int .i16 0, .int .u8 0, .int .i16 0, .int .u8 0, .int .i16 0, .int .u8 0, .int .i16 0, .int .u8 0, .int .i16 0, .int .u8 0, .int .i16 0, .int .u8 0, .int .i16 0, .int .u8 0, .int .i16 0, .int .u8 0, .int .i16 0, .int .u8 0, .int .i16 0, .int .u8 0, .int .i16 0, .int .u8 0, .int .i16 0] 31) = x := ⟨_, rfl⟩
      obtain ⟨N9, hN⟩ : ∃ N, x1.heap.size = N := ⟨_, rfl⟩
      rw [hx] at hH2 bn ⊢
      rw [hN] at hn bn ⊢
      have B9 := Lib.hid bn
      have H9 := Lib.hid hn
      clear bn hn hx hN hHeld
      refine hK.out _ _ hH2 (fun hHeld => ?_)
      clear hK K hH2
      try simp only [Act.put, zA, zB, zC, zD, zE, zF]
      refine wpAnyH_ready (rs := [3, 10]) (by kernel_rfl) (by simp) ?_
      refine AllReadyH.cons rfl (fun K hK => ?_) ?_
      ·skip
       refine if_wanted rfl ?_
       go_simp
       refine (toCrate_any b HB.out.1 _).mono ?_
       rintro e x19 ⟨rfl, hb⟩
       have hH2 : Below W0.heap.size W0 x19 := hHeld.trans (hb.mono hHeld.size)
       have C9 : Hid (CBlk x19 N9 31 noB) := B9.out.below hb B9.out.lt
       clear B9
       have B9 := C9
       clear C9
       clear hb hHeld
       dsimp only
       refine hK.out _ _ hH2 (fun hHeld => ?_)
       clear hK K hH2
       try simp only [Act.put, zA, zB, zC, zD, zE, zF]
       refine wpAnyH_ready (rs := [4, 10]) (by kernel_rfl) (by simp) ?_
       refine AllReadyH.cons rfl (fun K hK => ?_) ?_
       ·skip
        refine if_wanted rfl ?_
        go_simp
        refine (HS.out _).mono ?_
        rintro e x20 ⟨rfl, hb⟩
        have hH2 : Below W0.heap.size W0 x20 := hHeld.trans (hb.mono hHeld.size)
        have C9 : Hid (CBlk x20 N9 31 noB) := B9.out.below hb B9.out.lt
        clear B9
        have B9 := C9
        clear C9
        clear hb hHeld
        dsimp only
        refine hK.out _ _ hH2 (fun hHeld => ?_)
        clear hK K hH2
        try simp only [Act.put, zA, zB, zC, zD, zE, zF]
        refine wpAnyH_take (i := 5) (v := .tuple #[.agg (ccells X).toArray, .agg (ccells Y).toArray, .int .i64 c]) rfl (by kernel_rfl) (by kernel_rfl) (by kernel_rfl) (fun _ _ _ ⟨_, _, h, _⟩ => nomatch h) (Or.inl ⟨by rfl, fun w _ => by go_simp⟩) (by assumption) ?_
        try simp only [Act.put, zA, zB, zC, zD, zE, zF]
        refine wpAnyH_take (i := 6) (v := .agg (ccells X).toArray) rfl (by kernel_rfl) (by kernel_rfl) (by kernel_rfl) (fun _ _ _ ⟨_, _, h, _⟩ => nomatch h) (Or.inl ⟨by rfl, fun w _ => by go_simp⟩) (by assumption) ?_
        try simp only [Act.put, zA, zB, zC, zD, zE, zF]
        refine wpAnyH_take (i := 7) (v := .agg (ccells Y).toArray) rfl (by kernel_rfl) (by kernel_rfl) (by kernel_rfl) (fun _ _ _ ⟨_, _, h, _⟩ => nomatch h) (Or.inl ⟨by rfl, fun w _ => by go_simp⟩) (by assumption) ?_
        try simp only [Act.put, zA, zB, zC, zD, zE, zF]
        refine wpAnyH_take (i := 8) (v := .int .i64 c) rfl (by kernel_rfl) (by kernel_rfl) (by kernel_rfl) (fun _ _ _ ⟨_, _, h, _⟩ => nomatch h) (Or.inl ⟨by rfl, fun w _ => by go_simp⟩) (by assumption) ?_
        try simp only [Act.put, zA, zB, zC, zD, zE, zF]
        refine wpAnyH_ready (rs := [10]) (by kernel_rfl) (by simp) ?_
        refine AllReadyH.cons rfl (fun K hK => ?_) AllReadyH.nil
        refine if_wanted rfl ?_
        go_simp
        have bn : CBlk (x20.alloc (.cells #[.int .u8 0, .int .i16 0, .int .u8 0, .int .i16 0, .int .u8 0, .int .i16 0, .int .u8 0, .int .i16 0, .int .u8 0, .int .i16 0, .int .u8 0, .int .i16 0, .int .u8 0, .int .i16 0, .int .u8 0, .int .i16 0, .int .u8 0, .int .i16 0, .int .u8 0, .int .i16 0, .int .u8 0, .int .i16 0, .int .u8 0, .int .i16 0] 31)) x20.heap.size 31 noB := CBlk.new' rfl rfl
        have hn : W0.heap.size ≤ x20.heap.size := hHeld.size
        have hH2 : Below W0.heap.size W0 (x20.alloc (.cells #[.int .u8 0, .int .i16 0, .int .u8 0, .int .i16 0, .int .u8 0, .int .i16 0, .int .u8 0, .int .i16 0, .int .u8 0, .int .i16 0, .int .u8 0, .int .i16 0, .int .u8 0, .int .i16 0, .int .u8 0, .int .i16 0, .int .u8 0, .int .i16 0, .int .u8 0, .int .i16 0, .int .u8 0, .int .i16 0, .int .u8 0, .int .i16 0] 31)) := hHeld.alloc hHeld.size _
        have C9 : Hid (CBlk (x20.alloc (.cells #[.int .u8 0, .int .i16 0, .int .u8 0, .int .i16 0, .int .u8 0, .int .i16 0, .int .u8 0, .int .i16 0, .int .u8 0, .int .i16 0, .int .u8 0, .int .i16 0, .int .u8 0, .int .i16 0, .int .u8 0, .int .i16 0, .int .u8 0, .int .i16 0, .int .u8 0, .int .i16 0, .int .u8 0, .int .i16 0, .int .u8 0, .int .i16 0] 31)) N9 31 noB) := B9.out.alloc _
        have hNE0 : N9 < x20.heap.size := B9.out.lt
        clear B9
        obtain ⟨x21, hx⟩ : ∃ x, x20.alloc (.cells #[.int .u8 0, .int .i16 0, .int .u8 0, .int .i16 0, .int .u8 0, .int .i16 0, .int .u8 0, .int .i16 0, .int .u8 0, .int .i16 0, .int .u8 0, .int .i16 0, .int .u8 0, .int .i16 0, .int .u8 0, .int .i16 0, .int .u8 0, .int .i16 0, .int .u8 0, .int .i16 0, .int .u8 0, .int .i16 0, .int .u8 0, .int .i16 0] 31) = x := ⟨_, rfl⟩
        obtain ⟨N10, hN⟩ : ∃ N, x20.heap.size = N := ⟨_, rfl⟩
        rw [hx] at hH2 bn C9 ⊢
        rw [hN] at hn bn hNE0 ⊢
        have B9 := C9
        clear C9
        have hNE := Lib.hid hNE0
        clear hNE0
        have B10 := Lib.hid bn
        have H10 := Lib.hid hn
        clear bn hn hx hN hHeld
        refine hK.out _ _ hH2 (fun hHeld => ?_)
        clear hK K hH2
        try simp only [Act.put, zA, zB, zC, zD, zE, zF]
        have HNE : Hid (N9 ≠ N10) := by have := hNE.out; show N9 ≠ N10; omega
        refine wpAnyH_ready (rs := [11]) (by kernel_rfl) (by simp) ?_
        refine AllReadyH.cons rfl (fun K hK => ?_) AllReadyH.nil
        refine if_wanted rfl (wp_store_row 31 (.tmp 5) (.tmp 17) rfl N9 (ccells X).toArray rfl rfl 31 _ B9.out (size_of_crate Tryd.sizeCr _ HX.out.1) (by show (ccells noB).toArray.size = _; rw [ccells_size _ HX.out.1]; rfl) (ccells_one _) ?_)
        refine hK.out _ _ (Below.setRow hHeld _ _ H9.out) (fun hHeld => ?_)
        clear hK K
        try simp only [Act.put, zA, zB, zC]
        refine wpAnyH_ready (rs := [12]) (by kernel_rfl) (by simp) ?_
        refine AllReadyH.cons rfl (fun K hK => ?_) AllReadyH.nil
        refine if_wanted rfl (wp_store_row 31 (.tmp 6) (.tmp 18) rfl N10 (ccells Y).toArray rfl rfl 31 _ (B10.out.rowOff (fun e => HNE.out e.symm) _) (size_of_crate Tryd.sizeCr _ HY.out.1) (by show (ccells noB).toArray.size = _; rw [ccells_size _ HY.out.1]; rfl) (ccells_one _) ?_)
        refine hK.out _ _ (Below.setRow hHeld _ _ H10.out) (fun hHeld => ?_)
        clear hK K
        try simp only [Act.put, zA, zB, zC]
        refine wpAnyH_ready (rs := [13]) (by kernel_rfl) (by simp) ?_
        refine AllReadyH.cons rfl (fun K hK => ?_) AllReadyH.nil
        refine if_wanted rfl ?_
        refine wp_assign0 rfl rfl ?_
        refine hK.out _ _ hHeld (fun hHeld => ?_)
        clear hK K
        try simp only [Act.put, zA, zB, zC, zD, zE, zF]
        exact wpAnyH_done (by kernel_rfl) ⟨N9, N10, rfl, rfl, (CBlk.setRow (Y := X) B9.out).rowOff HNE.out _, CBlk.setRow (Y := Y) (B10.out.rowOff (fun e => HNE.out e.symm) _), hHeld⟩ _
       refine AllReadyH.cons rfl (fun K hK => ?_) AllReadyH.nil
       refine if_wanted rfl ?_
       go_simp
       have bn : CBlk (x19.alloc (.cells #[.int .u8 0, .int .i16 0, .int .u8 0, .int .i16 0, .int .u8 0, .int .i16 0, .int .u8 0, .int .i16 0, .int .u8 0, .int .i16 0, .int .u8 0, .int .i16 0, .int .u8 0, .int .i16 0, .int .u8 0, .int .i16 0, .int .u8 0, .int .i16 0, .int .u8 0, .int .i16 0, .int .u8 0, .int .i16 0, .int .u8 0, .int .i16 0] 31)) x19.heap.size 31 noB := CBlk.new' rfl rfl
       have hn : W0.heap.size ≤ x19.heap.size := hHeld.size
       have hH2 : Below W0.heap.size W0 (x19.alloc (.cells #[.int .u8 0, .int .i16 0, .int .u8 0, .int .i16 0, .int .u8 0, .int .i16 0, .int .u8 0, .int .i16 0, .int .u8 0, .int .i16 0, .int .u8 0, .int .i16 0, .int .u8 0, .int .i16 0, .int .u8 0, .int .i16 0, .int .u8 0, .int .i16 0, .int .u8 0, .int .i16 0, .int .u8 0, .int .i16 0, .int .u8 0, .int .i16 0] 31)) := hHeld.alloc hHeld.size _
       have C9 : Hid (CBlk (x19.alloc (.cells #[.int .u8 0, .int .i16 0, .int .u8 0, .int .i16 0, .int .u8 0, .int .i16 0, .int .u8 0, .int .i16 0, .int .u8 0, .int .i16 0, .int .u8 0, .int .i16 0, .int .u8 0, .int .i16 0, .int .u8 0, .int .i16 0, .int .u8 0, .int .i16 0, .int .u8 0, .int .i16 0, .int .u8 0, .int .i16 0, .int .u8 0, .int .i16 0] 31)) N9 31 noB) := B9.out.alloc _
       have hNE0 : N9 < x19.heap.size := B9.out.lt
       clear B9
       obtain ⟨x22, hx⟩ : ∃ x, x19.alloc (.cells #[.int .u8 0, .int .i16 0, .int .u8 0, .int .i16 0, .int .u8 0, .int .i16 0, .int .u8 0, .int .i16 0, .int .u8 0, .int .i16 0, .int .u8 0, .int .i16 0, .int .u8 0, .int .i16 0, .int .u8 0, .int .i16 0, .int .u8 0, .int .i16 0, .int .u8 0, .int .i16 0, .int .u8 0, .int .i16 0, .int .u8 0, .int .i16 0] 31) = x := ⟨_, rfl⟩
       obtain ⟨N10, hN⟩ : ∃ N, x19.heap.size = N := ⟨_, rfl⟩
       rw [hx] at hH2 bn C9 ⊢
       rw [hN] at hn bn hNE0 ⊢
       have B9 := C9
       clear C9
       have hNE := Lib.hid hNE0
       clear hNE0
       have B10 := Lib.hid bn
       have H10 := Lib.hid hn
       clear bn hn hx hN hHeld
       refine hK.out _ _ hH2 (fun hHeld => ?_)
       clear hK K hH2
       try simp only [Act.put, zA, zB, zC, zD, zE, zF]
       refine wpAnyH_ready (rs := [4]) (by kernel_rfl) (by simp) ?_
       refine AllReadyH.cons rfl (fun K hK => ?_) AllReadyH.nil
       refine if_wanted rfl ?_
       go_simp
       refine (HS.out _).mono ?_
       rintro e x23 ⟨rfl, hb⟩
       have hH2 : Below W0.heap.size W0 x23 := hHeld.trans (hb.mono hHeld.size)
       have C9 : Hid (CBlk x23 N9 31 noB) := B9.out.below hb B9.out.lt
       clear B9
       have B9 := C9
       clear C9
       have C10 : Hid (CBlk x23 N10 31 noB) := B10.out.below hb B10.out.lt
       clear B10
       have B10 := C10
       clear C10
       clear hb hHeld
       dsimp only
       refine hK.out _ _ hH2 (fun hHeld => ?_)
       clear hK K hH2
       try simp only [Act.put, zA, zB, zC, zD, zE, zF]
       refine wpAnyH_take (i := 5) (v := .tuple #[.agg (ccells X).toArray, .agg (ccells Y).toArray, .int .i64 c]) rfl (by kernel_rfl) (by kernel_rfl) (by kernel_rfl) (fun _ _ _ ⟨_, _, h, _⟩ => nomatch h) (Or.inl ⟨by rfl, fun w _ => by go_simp⟩) (by assumption) ?_
       try simp only [Act.put, zA, zB, zC, zD, zE, zF]
       refine wpAnyH_take (i := 6) (v := .agg (ccells X).toArray) rfl (by kernel_rfl) (by kernel_rfl) (by kernel_rfl) (fun _ _ _ ⟨_, _, h, _⟩ => nomatch h) (Or.inl ⟨by rfl, fun w _ => by go_simp⟩) (by assumption) ?_
       try simp only [Act.put, zA, zB, zC, zD, zE, zF]
       refine wpAnyH_take (i := 7) (v := .agg (ccells Y).toArray) rfl (by kernel_rfl) (by kernel_rfl) (by kernel_rfl) (fun _ _ _ ⟨_, _, h, _⟩ => nomatch h) (Or.inl ⟨by rfl, fun w _ => by go_simp⟩) (by assumption) ?_
       try simp only [Act.put, zA, zB, zC, zD, zE, zF]
       refine wpAnyH_take (i := 8) (v := .int .i64 c) rfl (by kernel_rfl) (by kernel_rfl) (by kernel_rfl) (fun _ _ _ ⟨_, _, h, _⟩ => nomatch h) (Or.inl ⟨by rfl, fun w _ => by go_simp⟩) (by assumption) ?_
       try simp only [Act.put, zA, zB, zC, zD, zE, zF]
       have HNE : Hid (N9 ≠ N10) := by have := hNE.out; show N9 ≠ N10; omega
       refine wpAnyH_ready (rs := [11]) (by kernel_rfl) (by simp) ?_
       refine AllReadyH.cons rfl (fun K hK => ?_) AllReadyH.nil
       refine if_wanted rfl (wp_store_row 31 (.tmp 5) (.tmp 17) rfl N9 (ccells X).toArray rfl rfl 31 _ B9.out (size_of_crate Tryd.sizeCr _ HX.out.1) (by show (ccells noB).toArray.size = _; rw [ccells_size _ HX.out.1]; rfl) (ccells_one _) ?_)
       refine hK.out _ _ (Below.setRow hHeld _ _ H9.out) (fun hHeld => ?_)
       clear hK K
       try simp only [Act.put, zA, zB, zC]
       refine wpAnyH_ready (rs := [12]) (by kernel_rfl) (by simp) ?_
       refine AllReadyH.cons rfl (fun K hK => ?_) AllReadyH.nil
       refine if_wanted rfl (wp_store_row 31 (.tmp 6) (.tmp 18) rfl N10 (ccells Y).toArray rfl rfl 31 _ (B10.out.rowOff (fun e => HNE.out e.symm) _) (size_of_crate Tryd.sizeCr _ HY.out.1) (by show (ccells noB).toArray.size = _; rw [ccells_size _ HY.out.1]; rfl) (ccells_one _) ?_)
       refine hK.out _ _ (Below.setRow hHeld _ _ H10.out) (fun hHeld => ?_)
       clear hK K
       try simp only [Act.put, zA, zB, zC]
       refine wpAnyH_ready (rs := [13]) (by kernel_rfl) (by simp) ?_
       refine AllReadyH.cons rfl (fun K hK => ?_) AllReadyH.nil
       refine if_wanted rfl ?_
       refine wp_assign0 rfl rfl ?_
       refine hK.out _ _ hHeld (fun hHeld => ?_)
       clear hK K
       try simp only [Act.put, zA, zB, zC, zD, zE, zF]
       exact wpAnyH_done (by kernel_rfl) ⟨N9, N10, rfl, rfl, (CBlk.setRow (Y := X) B9.out).rowOff HNE.out _, CBlk.setRow (Y := Y) (B10.out.rowOff (fun e => HNE.out e.symm) _), hHeld⟩ _
      refine AllReadyH.cons rfl (fun K hK => ?_) AllReadyH.nil
      refine if_wanted rfl ?_
      go_simp
      have bn : CBlk (x18.alloc (.cells #[.int .u8 0, .int .i16 0, .int .u8 0, .int .i16 0, .int .u8 0, .int .i16 0, .int .u8 0, .int .i16 0, .int .u8 0, .int .i16 0, .int .u8 0, .int .i16 0, .int .u8 0, .int .i16 0, .int .u8 0, .int .i16 0, .int .u8 0, .int .i16 0, .int .u8 0, .int .i16 0, .int .u8 0, .int .i16 0, .int .u8 0, .int .i16 0] 31)) x18.heap.size 31 noB := CBlk.new' rfl rfl
      have hn : W0.heap.size ≤ x18.heap.size := hHeld.size
      have hH2 : Below W0.heap.size W0 (x18.alloc (.cells #[.int .u8 0, .int .i16 0, .int .u8 0, .int .i16 0, .int .u8 0, .int .i16 0, .int .u8 0, .int .i16 0, .int .u8 0, .int .i16 0, .int .u8 0, .int .i16 0, .int .u8 0, .int .i16 0, .int .u8 0, .int .i16 0, .int .u8 0, .int .i16 0, .int .u8 0, .int .i16 0, .int .u8 0, .int .i16 0, .int .u8 0, .int .i16 0] 31)) := hHeld.alloc hHeld.size _
      have C9 : Hid (CBlk (x18.alloc (.cells #[.int .u8 0, .int .i16 0, .int .u8 0, .int .i16 0, .int .u8 0, .int .i16 0, .int .u8 0, .int .i16 0, .int .u8 0, .int .i16 0, .int .u8 0, .int .i16 0, .int .u8 0, .int .i16 0, .int .u8 0, .int .i16 0, .int .u8 0, .int .i16 0, .int .u8 0, .int .i16 0, .int .u8 0, .int .i16 0, .int .u8 0, .int .i16 0] 31)) N9 31 noB) := B9.out.alloc _
      have hNE0 : N9 < x18.heap.size := B9.out.lt
      clear B9
      obtain ⟨x24, hx⟩ : ∃ x, x18.alloc (.cells #[.int .u8 0, .int .i16 0, .int .u8 0, .int .i16 0, .int .u8 0, .int .i16 0, .int .u8 0, .int .i16 0, .int .u8 0, .int .i16 0, .int .u8 0, .int .i16 0, .int .u8 0, .int .i16 0, .int .u8 0, .int .i16 0, .int .u8 0, .int .i16 0, .int .u8 0, .int .i16 0, .int .u8 0, .int .i16 0, .int .u8 0, .int .i16 0] 31) = x := ⟨_, rfl⟩
      obtain ⟨N10, hN⟩ : ∃ N, x18.heap.size = N := ⟨_, rfl⟩
      rw [hx] at hH2 bn C9 ⊢
      rw [hN] at hn bn hNE0 ⊢
      have B9 := C9
      clear C9
      have hNE := Lib.hid hNE0
      clear hNE0
      have B10 := Lib.hid bn
      have H10 := Lib.hid hn
      clear bn hn hx hN hHeld
      refine hK.out _ _ hH2 (fun hHeld => ?_)
      clear hK K hH2
      try simp only [Act.put, zA, zB, zC, zD, zE, zF]
      refine wpAnyH_ready (rs := [3]) (by kernel_rfl) (by simp) ?_
      refine AllReadyH.cons rfl (fun K hK => ?_) AllReadyH.nil
      refine if_wanted rfl ?_
      go_simp
      refine (toCrate_any b HB.out.1 _).mono ?_
      rintro e x25 ⟨rfl, hb⟩
      have hH2 : Below W0.heap.size W0 x25 := hHeld.trans (hb.mono hHeld.size)
      have C9 : Hid (CBlk x25 N9 31 noB) := B9.out.below hb B9.out.lt
      clear B9
      have B9 := C9
      clear C9
      have C10 : Hid (CBlk x25 N10 31 noB) := B10.out.below hb B10.out.lt
      clear B10
      have B10 := C10
      clear C10
      clear hb hHeld
      dsimp only
      refine hK.out _ _ hH2 (fun hHeld => ?_)
      clear hK K hH2
      try simp only [Act.put, zA, zB, zC, zD, zE, zF]
      refine wpAnyH_ready (rs := [4]) (by kernel_rfl) (by simp) ?_
      refine AllReadyH.cons rfl (fun K hK => ?_) AllReadyH.nil
      refine if_wanted rfl ?_
      go_simp
      refine (HS.out _).mono ?_
      rintro e x26 ⟨rfl, hb⟩
      have hH2 : Below W0.heap.size W0 x26 := hHeld.trans (hb.mono hHeld.size)
      have C9 : Hid (CBlk x26 N9 31 noB) := B9.out.below hb B9.out.lt
      clear B9
      have B9 := C9
      clear C9
      have C10 : Hid (CBlk x26 N10 31 noB) := B10.out.below hb B10.out.lt
      clear B10
      have B10 := C10
      clear C10
      clear hb hHeld
      dsimp only
      refine hK.out _ _ hH2 (fun hHeld => ?_)
      clear hK K hH2
      try simp only [Act.put, zA, zB, zC, zD, zE, zF]
      refine wpAnyH_take (i := 5) (v := .tuple #[.agg (ccells X).toArray, .agg (ccells Y).toArray, .int .i64 c]) rfl (by kernel_rfl) (by kernel_rfl) (by kernel_rfl) (fun _ _ _ ⟨_, _, h, _⟩ => nomatch h) (Or.inl ⟨by rfl, fun w _ => by go_simp⟩) (by assumption) ?_
      try simp only [Act.put, zA, zB, zC, zD, zE, zF]
      refine wpAnyH_take (i := 6) (v := .agg (ccells X).toArray) rfl (by kernel_rfl) (by kernel_rfl) (by kernel_rfl) (fun _ _ _ ⟨_, _, h, _⟩ => nomatch h) (Or.inl ⟨by rfl, fun w _ => by go_simp⟩) (by assumption) ?_
      try simp only [Act.put, zA, zB, zC, zD, zE, zF]
      refine wpAnyH_take (i := 7) (v := .agg (ccells Y).toArray) rfl (by kernel_rfl) (by kernel_rfl) (by kernel_rfl) (fun _ _ _ ⟨_, _, h, _⟩ => nomatch h) (Or.inl ⟨by rfl, fun w _ => by go_simp⟩) (by assumption) ?_
      try simp only [Act.put, zA, zB, zC, zD, zE, zF]
      refine wpAnyH_take (i := 8) (v := .int .i64 c) rfl (by kernel_rfl) (by kernel_rfl) (by kernel_rfl) (fun _ _ _ ⟨_, _, h, _⟩ => nomatch h) (Or.inl ⟨by rfl, fun w _ => by go_simp⟩) (by assumption) ?_
      try simp only [Act.put, zA, zB, zC, zD, zE, zF]
      have HNE : Hid (N9 ≠ N10) := by have := hNE.out; show N9 ≠ N10; omega
      refine wpAnyH_ready (rs := [11]) (by kernel_rfl) (by simp) ?_
      refine AllReadyH.cons rfl (fun K hK => ?_) AllReadyH.nil
      refine if_wanted rfl (wp_store_row 31 (.tmp 5) (.tmp 17) rfl N9 (ccells X).toArray rfl rfl 31 _ B9.out (size_of_crate Tryd.sizeCr _ HX.out.1) (by show (ccells noB).toArray.size = _; rw [ccells_size _ HX.out.1]; rfl) (ccells_one _) ?_)
      refine hK.out _ _ (Below.setRow hHeld _ _ H9.out) (fun hHeld => ?_)
      clear hK K
      try simp only [Act.put, zA, zB, zC]
      refine wpAnyH_ready (rs := [12]) (by kernel_rfl) (by simp) ?_
      refine AllReadyH.cons rfl (fun K hK => ?_) AllReadyH.nil
      refine if_wanted rfl (wp_store_row 31 (.tmp 6) (.tmp 18) rfl N10 (ccells Y).toArray rfl rfl 31 _ (B10.out.rowOff (fun e => HNE.out e.symm) _) (size_of_crate Tryd.sizeCr _ HY.out.1) (by show (ccells noB).toArray.size = _; rw [ccells_size _ HY.out.1]; rfl) (ccells_one _) ?_)
      refine hK.out _ _ (Below.setRow hHeld _ _ H10.out) (fun hHeld => ?_)
      clear hK K
      try simp only [Act.put, zA, zB, zC]
      refine wpAnyH_ready (rs := [13]) (by kernel_rfl) (by simp) ?_
      refine AllReadyH.cons rfl (fun K hK => ?_) AllReadyH.nil
      refine if_wanted rfl ?_
      refine wp_assign0 rfl rfl ?_
      refine hK.out _ _ hHeld (fun hHeld => ?_)
      clear hK K
      try simp only [Act.put, zA, zB, zC, zD, zE, zF]
      exact wpAnyH_done (by kernel_rfl) ⟨N9, N10, rfl, rfl, (CBlk.setRow (Y := X) B9.out).rowOff HNE.out _, CBlk.setRow (Y := Y) (B10.out.rowOff (fun e => HNE.out e.symm) _), hHeld⟩ _
     refine AllReadyH.cons rfl (fun K hK => ?_) AllReadyH.nil
     refine if_wanted rfl ?_
     go_simp
     have bn : CBlk (x1.alloc (.cells #[.int .u8 0, .int .i16 0, .int .u8 0, .int .i16 0, .int .u8 0, .int .i16 0, .int .u8 0, .int .i16 0, .int .u8 0, .int .i16 0, .int .u8 0, .int .i16 0, .int .u8 0, .int .i16 0, .int .u8 0, .int .i16 0, .int .u8 0, .int .i16 0, .int .u8 0, .int .i16 0, .int .u8 0, .int .i16 0, .int .u8 0, .int .i16 0] 31)) x1.heap.size 31 noB := CBlk.new' rfl rfl
     have hn : W0.heap.size ≤ x1.heap.size := hHeld.size
     have hH2 : Below W0.heap.size W0 (x1.alloc (.cells #[.int .u8 0, .int .i16 0, .int .u8 0, .int .i16 0, .int .u8 0, .int .i16 0, .int .u8 0, .int .i16 0, .int .u8 0, .int .i16 0, .int .u8 0, .int .i16 0, .int .u8 0, .int .i16 0, .int .u8 0, .int .i16 0, .int .u8 0, .int .i16 0, .int .u8 0, .int .i16 0, .int .u8 0, .int .i16 0, .int .u8 0, .int .i16 0] 31)) := hHeld.alloc hHeld.size _
     obtain ⟨x27, hx⟩ : ∃ x, x1.alloc (.cells #[.int .u8 0, .int .i16 0, .int .u8 0, .int .i16 0, .int .u8 0, .int .i16 0, .int .u8 0, .int .i16 0, .int .u8 0, .int .i16 0, .int .u8 0, .int .i16 0, .int .u8 0, .int .i16 0, .int .u8 0, .int .i16 0, .int .u8 0, .int .i16 0, .int .u8 0, .int .i16 0, .int .u8 0, .int .i16 0, .int .u8 0, .int .i16 0] 31) = x := ⟨_, rfl⟩
     obtain ⟨N10, hN⟩ : ∃ N, x1.heap.size = N := ⟨_, rfl⟩
     rw [hx] at hH2 bn ⊢
     rw [hN] at hn bn ⊢
     have B10 := Lib.hid bn
     have H10 := Lib.hid hn
     clear bn hn hx hN hHeld
     refine hK.out _ _ hH2 (fun hHeld => ?_)
     clear hK K hH2
     try simp only [Act.put, zA, zB, zC, zD, zE, zF]
     refine wpAnyH_ready (rs := [3, 9]) (by kernel_rfl) (by simp) ?_
     refine AllReadyH.cons rfl (fun K hK => ?_) ?_
     ·skip
      refine if_wanted rfl ?_
      go_simp
      refine (toCrate_any b HB.out.1 _).mono ?_
      rintro e x28 ⟨rfl, hb⟩
      have hH2 : Below W0.heap.size W0 x28 := hHeld.trans (hb.mono hHeld.size)
      have C10 : Hid (CBlk x28 N10 31 noB) := B10.out.below hb B10.out.lt
      clear B10
      have B10 := C10
      clear C10
      clear hb hHeld
      dsimp only
      refine hK.out _ _ hH2 (fun hHeld => ?_)
      clear hK K hH2
      try simp only [Act.put, zA, zB, zC, zD, zE, zF]
      refine wpAnyH_ready (rs := [4, 9]) (by kernel_rfl) (by simp) ?_
      refine AllReadyH.cons rfl (fun K hK => ?_) ?_
      ·skip
       refine if_wanted rfl ?_
       go_simp
       refine (HS.out _).mono ?_
       rintro e x29 ⟨rfl, hb⟩
       have hH2 : Below W0.heap.size W0 x29 := hHeld.trans (hb.mono hHeld.size)
       have C10 : Hid (CBlk x29 N10 31 noB) := B10.out.below hb B10.out.lt
       clear B10
       have B10 := C10
       clear C10
       clear hb hHeld
       dsimp only
       refine hK.out _ _ hH2 (fun hHeld => ?_)
       clear hK K hH2
       try simp only [Act.put, zA, zB, zC, zD, zE, zF]
       refine wpAnyH_take (i := 5) (v := .tuple #[.agg (ccells X).toArray, .agg (ccells Y).toArray, .int .i64 c]) rfl (by kernel_rfl) (by kernel_rfl) (by kernel_rfl) (fun _ _ _ ⟨_, _, h, _⟩ => nomatch h) (Or.inl ⟨by rfl, fun w _ => by go_simp⟩) (by assumption) ?_
       try simp only [Act.put, zA, zB, zC, zD, zE, zF]
       refine wpAnyH_take (i := 6) (v := .agg (ccells X).toArray) rfl (by kernel_rfl) (by kernel_rfl) (by kernel_rfl) (fun _ _ _ ⟨_, _, h, _⟩ => nomatch h) (Or.inl ⟨by rfl, fun w _ => by go_simp⟩) (by assumption) ?_
       try simp only [Act.put, zA, zB, zC, zD, zE, zF]
       refine wpAnyH_take (i := 7) (v := .agg (ccells Y).toArray) rfl (by kernel_rfl) (by kernel_rfl) (by kernel_rfl) (fun _ _ _ ⟨_, _, h, _⟩ => nomatch h) (Or.inl ⟨by rfl, fun w _ => by go_simp⟩) (by assumption) ?_
       try simp only [Act.put, zA, zB, zC, zD, zE, zF]
       refine wpAnyH_take (i := 8) (v := .int .i64 c) rfl (by kernel_rfl) (by kernel_rfl) (by kernel_rfl) (fun _ _ _ ⟨_, _, h, _⟩ => nomatch h) (Or.inl ⟨by rfl, fun w _ => by go_simp⟩) (by assumption) ?_
       try simp only [Act.put, zA, zB, zC, zD, zE, zF]
       refine wpAnyH_ready (rs := [9]) (by kernel_rfl) (by simp) ?_
       refine AllReadyH.cons rfl (fun K hK => ?_) AllReadyH.nil
       refine if_wanted rfl ?_
       go_simp
       have bn : CBlk (x29.alloc (.cells #[.int .u8 0, .int .i16 0, .int .u8 0, .int .i16 0, .int .u8 0, .int .i16 0, .int .u8 0, .int .i16 0, .int .u8 0, .int .i16 0, .int .u8 0, .int .i16 0, .int .u8 0, .int .i16 0, .int .u8 0, .int .i16 0, .int .u8 0, .int .i16 0, .int .u8 0, .int .i16 0, .int .u8 0, .int .i16 0, .int .u8 0, .int .i16 0] 31)) x29.heap.size 31 noB := CBlk.new' rfl rfl
       have hn : W0.heap.size ≤ x29.heap.size := hHeld.size
       have hH2 : Below W0.heap.size W0 (x29.alloc (.cells #[.int .u8 0, .int .i16 0, .int .u8 0, .int .i16 0, .int .u8 0, .int .i16 0, .int .u8 0, .int .i16 0, .int .u8 0, .int .i16 0, .int .u8 0, .int .i16 0, .int .u8 0, .int .i16 0, .int .u8 0, .int .i16 0, .int .u8 0, .int .i16 0, .int .u8 0, .int .i16 0, .int .u8 0, .int .i16 0, .int .u8 0, .int .i16 0] 31)) := hHeld.alloc hHeld.size _
       have C10 : Hid (CBlk (x29.alloc (.cells #[.int .u8 0, .int .i16 0, .int .u8 0, .int .i16 0, .int .u8 0, .int .i16 0, .int .u8 0, .int .i16 0, .int .u8 0, .int .i16 0, .int .u8 0, .int .i16 0, .int .u8 0, .int .i16 0, .int .u8 0, .int .i16 0, .int .u8 0, .int .i16 0, .int .u8 0, .int .i16 0, .int .u8 0, .int .i16 0, .int .u8 0, .int .i16 0] 31)) N10 31 noB) := B10.out.alloc _
       have hNE0 : N10 < x29.heap.size := B10.out.lt
       clear B10
       obtain ⟨x30, hx⟩ : ∃ x, x29.alloc (.cells #[.int .u8 0, .int .i16 0, .int .u8 0, .int .i16 0, .int .u8 0, .int .i16 0, .int .u8 0, .int .i16 0, .int .u8 0, .int .i16 0, .int .u8 0, .int .i16 0, .int .u8 0, .int .i16 0, .int .u8 0, .int .i16 0, .int .u8 0, .int .i16 0, .int .u8 0, .int .i16 0, .int .u8 0, .int .i16 0, .int .u8 0, .int .i16 0] 31) = x := ⟨_, rfl⟩
       obtain ⟨N9, hN⟩ : ∃ N, x29.heap.size = N := ⟨_, rfl⟩
       rw [hx] at hH2 bn C10 ⊢
       rw [hN] at hn bn hNE0 ⊢
       have B10 := C10
       clear C10
       have hNE := Lib.hid hNE0
       clear hNE0
       have B9 := Lib.hid bn
       have H9 := Lib.hid hn
       clear bn hn hx hN hHeld
       refine hK.out _ _ hH2 (fun hHeld => ?_)
       clear hK K hH2
       try simp only [Act.put, zA, zB, zC, zD, zE, zF]
       have HNE : Hid (N9 ≠ N10) := by have := hNE.out; show N9 ≠ N10; omega
       refine wpAnyH_ready (rs := [11]) (by kernel_rfl) (by simp) ?_
       refine AllReadyH.cons rfl (fun K hK => ?_) AllReadyH.nil
       refine if_wanted rfl (wp_store_row 31 (.tmp 5) (.tmp 17) rfl N9 (ccells X).toArray rfl rfl 31 _ B9.out (size_of_crate Tryd.sizeCr _ HX.out.1) (by show (ccells noB).toArray.size = _; rw [ccells_size _ HX.out.1]; rfl) (ccells_one _) ?_)
       refine hK.out _ _ (Below.setRow hHeld _ _ H9.out) (fun hHeld => ?_)
       clear hK K
       try simp only [Act.put, zA, zB, zC]
       refine wpAnyH_ready (rs := [12]) (by kernel_rfl) (by simp) ?_
       refine AllReadyH.cons rfl (fun K hK => ?_) AllReadyH.nil
       refine if_wanted rfl (wp_store_row 31 (.tmp 6) (.tmp 18) rfl N10 (ccells Y).toArray rfl rfl 31 _ (B10.out.rowOff (fun e => HNE.out e.symm) _) (size_of_crate Tryd.sizeCr _ HY.out.1) (by show (ccells noB).toArray.size = _; rw [ccells_size _ HY.out.1]; rfl) (ccells_one _) ?_)
       refine hK.out _ _ (Below.setRow hHeld _ _ H10.out) (fun hHeld => ?_)
       clear hK K
       try simp only [Act.put, zA, zB, zC]
       refine wpAnyH_ready (rs := [13]) (by kernel_rfl) (by simp) ?_
       refine AllReadyH.cons rfl (fun K hK => ?_) AllReadyH.nil
       refine if_wanted rfl ?_
       refine wp_assign0 rfl rfl ?_
       refine hK.out _ _ hHeld (fun hHeld => ?_)
       clear hK K
       try simp only [Act.put, zA, zB, zC, zD, zE, zF]
       exact wpAnyH_done (by kernel_rfl) ⟨N9, N10, rfl, rfl, (CBlk.setRow (Y := X) B9.out).rowOff HNE.out _, CBlk.setRow (Y := Y) (B10.out.rowOff (fun e => HNE.out e.symm) _), hHeld⟩ _
      refine AllReadyH.cons rfl (fun K hK => ?_) AllReadyH.nil
      refine if_wanted rfl ?_
      go_simp
      have bn : CBlk (x28.alloc (.cells #[.int .u8 0, .int .i16 0, .int .u8 0, .int .i16 0, .int .u8 0, .int .i16 0, .int .u8 0, .int .i16 0, .int .u8 0, .int .i16 0, .int .u8 0, .int .i16 0, .int .u8 0, .int .i16 0, .int .u8 0, .int .i16 0, .int .u8 0, .int .i16 0, .int .u8 0, .int .i16 0, .int .u8 0, .int .i16 0, .int .u8 0, .int .i16 0] 31)) x28.heap.size 31 noB := CBlk.new' rfl rfl
      have hn : W0.heap.size ≤ x28.heap.size := hHeld.size
      have hH2 : Below W0.heap.size W0 (x28.alloc (.cells #[.int .u8 0, .int .i16 0, .int .u8 0, .int .i16 0, .int .u8 0, .int .i16 0, .int .u8 0, .int .i16 0, .int .u8 0, .int .i16 0, .int .u8 0, .int .i16 0, .int .u8 0, .int .i16 0, .int .u8 0, .int .i16 0, .int .u8 0, .int .i16 0, .int .u8 0, .int .i16 0, .int .u8 0, .int .i16 0, .int .u8 0, .int .i16 0] 31)) := hHeld.alloc hHeld.size _
      have C10 : Hid (CBlk (x28.alloc (.cells #[.int .u8 0, .int .i16 0, .int .u8 0, .int .i16 0, .int .u8 0, .int .i16 0, .int .u8 0, .int .i16 0, .int .u8 0, .int .i16 0, .int .u8 0, .int .i16 0, .int .u8 0, .int .i16 0, .int .u8 0, .int .i16 0, .int .u8 0, .int .i16 0, .int .u8 0, .int .i16 0, .int .u8 0, .int .i16 0, .int .u8 0, .int .i16 0] 31)) N10 31 noB) := B10.out.alloc _
      have hNE0 : N10 < x28.heap.size := B10.out.lt
      clear B10
      obtain ⟨x31, hx⟩ : ∃ x, x28.alloc (.cells #[.int .u8 0, .int .i16 0, .int .u8 0, .int .i16 0, .int .u8 0, .int .i16 0, .int .u8 0, .int .i16 0, .int .u8 0, .int .i16 0, .int .u8 0, .int .i16 0, .int .u8 0, .int .i16 0, .int .u8 0, .int .i16 0, .int .u8 0, .int .i16 0, .int .u8 0, .int .i16 0, .int .u8 0, .int .i16 0, .int .u8 0, .int .i16 0] 31) = x := ⟨_, rfl⟩
      obtain ⟨N9, hN⟩ : ∃ N, x28.heap.size = N := ⟨_, rfl⟩
      rw [hx] at hH2 bn C10 ⊢
      rw [hN] at hn bn hNE0 ⊢
      have B10 := C10
      clear C10
      have hNE := Lib.hid hNE0
      clear hNE0
      have B9 := Lib.hid bn
      have H9 := Lib.hid hn
      clear bn hn hx hN hHeld
      refine hK.out _ _ hH2 (fun hHeld => ?_)
      clear hK K hH2
      try simp only [Act.put, zA, zB, zC, zD, zE, zF]
      refine wpAnyH_ready (rs := [4]) (by kernel_rfl) (by simp) ?_
      refine AllReadyH.cons rfl (fun K hK => ?_) AllReadyH.nil
      refine if_wanted rfl ?_
      go_simp
      refine (HS.out _).mono ?_
      rintro e x32 ⟨rfl, hb⟩
      have hH2 : Below W0.heap.size W0 x32 := hHeld.trans (hb.mono hHeld.size)
      have C10 : Hid (CBlk x32 N10 31 noB) := B10.out.below hb B10.out.lt
      clear B10
      have B10 := C10
      clear C10
      have C9 : Hid (CBlk x32 N9 31 noB) := B9.out.below hb B9.out.lt
      clear B9
      have B9 := C9
      clear C9
      clear hb hHeld
      dsimp only
      refine hK.out _ _ hH2 (fun hHeld => ?_)
      clear hK K hH2
      try simp only [Act.put, zA, zB, zC, zD, zE, zF]
      refine wpAnyH_take (i := 5) (v := .tuple #[.agg (ccells X).toArray, .agg (ccells Y).toArray, .int .i64 c]) rfl (by kernel_rfl) (by kernel_rfl) (by kernel_rfl) (fun _ _ _ ⟨_, _, h, _⟩ => nomatch h) (Or.inl ⟨by rfl, fun w _ => by go_simp⟩) (by assumption) ?_
      try simp only [Act.put, zA, zB, zC, zD, zE, zF]
      refine wpAnyH_take (i := 6) (v := .agg (ccells X).toArray) rfl (by kernel_rfl) (by kernel_rfl) (by kernel_rfl) (fun _ _ _ ⟨_, _, h, _⟩ => nomatch h) (Or.inl ⟨by rfl, fun w _ => by go_simp⟩) (by assumption) ?_
      try simp only [Act.put, zA, zB, zC, zD, zE, zF]
      refine wpAnyH_take (i := 7) (v := .agg (ccells Y).toArray) rfl (by kernel_rfl) (by kernel_rfl) (by kernel_rfl) (fun _ _ _ ⟨_, _, h, _⟩ => nomatch h) (Or.inl ⟨by rfl, fun w _ => by go_simp⟩) (by assumption) ?_
      try simp only [Act.put, zA, zB, zC, zD, zE, zF]
      refine wpAnyH_take (i := 8) (v := .int .i64 c) rfl (by kernel_rfl) (by kernel_rfl) (by kernel_rfl) (fun _ _ _ ⟨_, _, h, _⟩ => nomatch h) (Or.inl ⟨by rfl, fun w _ => by go_simp⟩) (by assumption) ?_
      try simp only [Act.put, zA, zB, zC, zD, zE, zF]
      have HNE : Hid (N9 ≠ N10) := by have := hNE.out; show N9 ≠ N10; omega
      refine wpAnyH_ready (rs := [11]) (by kernel_rfl) (by simp) ?_
      refine AllReadyH.cons rfl (fun K hK => ?_) AllReadyH.nil
      refine if_wanted rfl (wp_store_row 31 (.tmp 5) (.tmp 17) rfl N9 (ccells X).toArray rfl rfl 31 _ B9.out (size_of_crate Tryd.sizeCr _ HX.out.1) (by show (ccells noB).toArray.size = _; rw [ccells_size _ HX.out.1]; rfl) (ccells_one _) ?_)
      refine hK.out _ _ (Below.setRow hHeld _ _ H9.out) (fun hHeld => ?_)
      clear hK K
      try simp only [Act.put, zA, zB, zC]
      refine wpAnyH_ready (rs := [12]) (by kernel_rfl) (by simp) ?_
      refine AllReadyH.cons rfl (fun K hK => ?_) AllReadyH.nil
      refine if_wanted rfl (wp_store_row 31 (.tmp 6) (.tmp 18) rfl N10 (ccells Y).toArray rfl rfl 31 _ (B10.out.rowOff (fun e => HNE.out e.symm) _) (size_of_crate Tryd.sizeCr _ HY.out.1) (by show (ccells noB).toArray.size = _; rw [ccells_size _ HY.out.1]; rfl) (ccells_one _) ?_)
      refine hK.out _ _ (Below.setRow hHeld _ _ H10.out) (fun hHeld => ?_)
      clear hK K
      try simp only [Act.put, zA, zB, zC]
      refine wpAnyH_ready (rs := [13]) (by kernel_rfl) (by simp) ?_
      refine AllReadyH.cons rfl (fun K hK => ?_) AllReadyH.nil
      refine if_wanted rfl ?_
      refine wp_assign0 rfl rfl ?_
      refine hK.out _ _ hHeld (fun hHeld => ?_)
      clear hK K
      try simp only [Act.put, zA, zB, zC, zD, zE, zF]
      exact wpAnyH_done (by kernel_rfl) ⟨N9, N10, rfl, rfl, (CBlk.setRow (Y := X) B9.out).rowOff HNE.out _, CBlk.setRow (Y := Y) (B10.out.rowOff (fun e => HNE.out e.symm) _), hHeld⟩ _
     refine AllReadyH.cons rfl (fun K hK => ?_) AllReadyH.nil
     refine if_wanted rfl ?_
     go_simp
     have bn : CBlk (x27.alloc (.cells #[.int .u8 0, .int .i16 0, .int .u8 0, .int .i16 0, .int .u8 0, .int .i16 0, .int .u8 0, .int .i16 0, .int .u8 0, .int .i16 0, .int .u8 0, .int .i16 0, .int .u8 0, .int .i16 0, .int .u8 0, .int .i16 0, .int .u8 0, .int .i16 0, .int .u8 0, .int .i16 0, .int .u8 0, .int .i16 0, .int .u8 0, .int .i16 0] 31)) x27.heap.size 31 noB := CBlk.new' rfl rfl
     have hn : W0.heap.size ≤ x27.heap.size := hHeld.size
     have hH2 : Below W0.heap.size W0 (x27.alloc (.cells #[.int .u8 0, .int .i16 0, .int .u8 0, .int .i16 0, .int .u8 0, .int .i16 0, .int .u8 0, .int .i16 0, .int .u8 0, .int .i16 0, .int .u8 0, .int .i16 0, .int .u8 0, .int .i16 0, .int .u8 0, .int .i16 0, .int .u8 0, .int .i16 0, .int .u8 0, .int .i16 0, .int .u8 0, .int .i16 0, .int .u8 0, .int .i16 0] 31)) := hHeld.alloc hHeld.size _
     have C10 : Hid (CBlk (x27.alloc (.cells #[.int .u8 0, .int .i16 0, .int .u8 0, .int .i16 0, .int .u8 0, .int .i16 0, .int .u8 0, .int .i16 0, .int .u8 0, .int .i16 0, .int .u8 0, .int .i16 0, .int .u8 0, .int .i16 0, .int .u8 0, .int .i16 0, .int .u8 0, .int .i16 0, .int .u8 0, .int .i16 0, .int .u8 0, .int .i16 0, .int .u8 0, .int .i16 0] 31)) N10 31 noB) := B10.out.alloc _
     have hNE0 : N10 < x27.heap.size := B10.out.lt
     clear B10
     obtain ⟨x33, hx⟩ : ∃ x, x27.alloc (.cells #[.int .u8 0, .int .i16 0, .int .u8 0, .int .i16 0, .int .u8 0, .int .i16 0, .int .u8 0, .int .i16 0, .int .u8 0, .int .i16 0, .int .u8 0, .int .i16 0, .int .u8 0, .int .i16 0, .int .u8 0, .int .i16 0, .int .u8 0, .int .i16 0, .int .u8 0, .int .i16 0, .int .u8 0, .int .i16 0, .int .u8 0, .int .i16 0] 31) = x := ⟨_, rfl⟩
     obtain ⟨N9, hN⟩ : ∃ N, x27.heap.size = N := ⟨_, rfl⟩
     rw [hx] at hH2 bn C10 ⊢
     rw [hN] at hn bn hNE0 ⊢
     have B10 := C10
     clear C10
     have hNE := Lib.hid hNE0
     clear hNE0
     have B9 := Lib.hid bn
     have H9 := Lib.hid hn
     clear bn hn hx hN hHeld
     refine hK.out _ _ hH2 (fun hHeld => ?_)
     clear hK K hH2
     try simp only [Act.put, zA, zB, zC, zD, zE, zF]
     refine wpAnyH_ready (rs := [3]) (by kernel_rfl) (by simp) ?_
     refine AllReadyH.cons rfl (fun K hK => ?_) AllReadyH.nil
     refine if_wanted rfl ?_
     go_simp
     refine (toCrate_any b HB.out.1 _).mono ?_
     rintro e x34 ⟨rfl, hb⟩
     have hH2 : Below W0.heap.size W0 x34 := hHeld.trans (hb.mono hHeld.size)
     have C10 : Hid (CBlk x34 N10 31 noB) := B10.out.below hb B10.out.lt
     clear B10
     have B10 := C10
     clear C10
     have C9 : Hid (CBlk x34 N9 31 noB) := B9.out.below hb B9.out.lt
     clear B9
     have B9 := C9
     clear C9
     clear hb hHeld
     dsimp only
     refine hK.out _ _ hH2 (fun hHeld => ?_)
     clear hK K hH2
     try simp only [Act.put, zA, zB, zC, zD, zE, zF]
     refine wpAnyH_ready (rs := [4]) (by kernel_rfl) (by simp) ?_
     refine AllReadyH.cons rfl (fun K hK => ?_) AllReadyH.nil
     refine if_wanted rfl ?_
     go_simp
     refine (HS.out _).mono ?_
     rintro e x35 ⟨rfl, hb⟩
     have hH2 : Below W0.heap.size W0 x35 := hHeld.trans (hb.mono hHeld.size)
     have C10 : Hid (CBlk x35 N10 31 noB) := B10.out.below hb B10.out.lt
     clear B10
     have B10 := C10
     clear C10
     have C9 : Hid (CBlk x35 N9 31 noB) := B9.out.below hb B9.out.lt
     clear B9
     have B9 := C9
     clear C9
     clear hb hHeld
     dsimp only
     refine hK.out _ _ hH2 (fun hHeld => ?_)
     clear hK K hH2
     try simp only [Act.put, zA, zB, zC, zD, zE, zF]
     refine wpAnyH_take (i := 5) (v := .tuple #[.agg (ccells X).toArray, .agg (ccells Y).toArray, .int .i64 c]) rfl (by kernel_rfl) (by kernel_rfl) (by kernel_rfl) (fun _ _ _ ⟨_, _, h, _⟩ => nomatch h) (Or.inl ⟨by rfl, fun w _ => by go_simp⟩) (by assumption) ?_
     try simp only [Act.put, zA, zB, zC, zD, zE, zF]
     refine wpAnyH_take (i := 6) (v := .agg (ccells X).toArray) rfl (by kernel_rfl) (by kernel_rfl) (by kernel_rfl) (fun _ _ _ ⟨_, _, h, _⟩ => nomatch h) (Or.inl ⟨by rfl, fun w _ => by go_simp⟩) (by assumption) ?_
     try simp only [Act.put, zA, zB, zC, zD, zE, zF]
     refine wpAnyH_take (i := 7) (v := .agg (ccells Y).toArray) rfl (by kernel_rfl) (by kernel_rfl) (by kernel_rfl) (fun _ _ _ ⟨_, _, h, _⟩ => nomatch h) (Or.inl ⟨by rfl, fun w _ => by go_simp⟩) (by assumption) ?_
     try simp only [Act.put, zA, zB, zC, zD, zE, zF]
     refine wpAnyH_take (i := 8) (v := .int .i64 c) rfl (by kernel_rfl) (by kernel_rfl) (by kernel_rfl) (fun _ _ _ ⟨_, _, h, _⟩ => nomatch h) (Or.inl ⟨by rfl, fun w _ => by go_simp⟩) (by assumption) ?_
     try simp only [Act.put, zA, zB, zC, zD, zE, zF]
     have HNE : Hid (N9 ≠ N10) := by have := hNE.out; show N9 ≠ N10; omega
     refine wpAnyH_ready (rs := [11]) (by kernel_rfl) (by simp) ?_
     refine AllReadyH.cons rfl (fun K hK => ?_) AllReadyH.nil
     refine if_wanted rfl (wp_store_row 31 (.tmp 5) (.tmp 17) rfl N9 (ccells X).toArray rfl rfl 31 _ B9.out (size_of_crate Tryd.sizeCr _ HX.out.1) (by show (ccells noB).toArray.size = _; rw [ccells_size _ HX.out.1]; rfl) (ccells_one _) ?_)
     refine hK.out _ _ (Below.setRow hHeld _ _ H9.out) (fun hHeld => ?_)
     clear hK K
     try simp only [Act.put, zA, zB, zC]
     refine wpAnyH_ready (rs := [12]) (by kernel_rfl) (by simp) ?_
     refine AllReadyH.cons rfl (fun K hK => ?_) AllReadyH.nil
     refine if_wanted rfl (wp_store_row 31 (.tmp 6) (.tmp 18) rfl N10 (ccells Y).toArray rfl rfl 31 _ (B10.out.rowOff (fun e => HNE.out e.symm) _) (size_of_crate Tryd.sizeCr _ HY.out.1) (by show (ccells noB).toArray.size = _; rw [ccells_size _ HY.out.1]; rfl) (ccells_one _) ?_)
     refine hK.out _ _ (Below.setRow hHeld _ _ H10.out) (fun hHeld => ?_)
     clear hK K
     try simp only [Act.put, zA, zB, zC]
     refine wpAnyH_ready (rs := [13]) (by kernel_rfl) (by simp) ?_
     refine AllReadyH.cons rfl (fun K hK => ?_) AllReadyH.nil
     refine if_wanted rfl ?_
     refine wp_assign0 rfl rfl ?_
     refine hK.out _ _ hHeld (fun hHeld => ?_)
     clear hK K
     try simp only [Act.put, zA, zB, zC, zD, zE, zF]
     exact wpAnyH_done (by kernel_rfl) ⟨N9, N10, rfl, rfl, (CBlk.setRow (Y := X) B9.out).rowOff HNE.out _, CBlk.setRow (Y := Y) (B10.out.rowOff (fun e => HNE.out e.symm) _), hHeld⟩ _
    refine AllReadyH.cons rfl (fun K hK => ?_) ?_
    ·skip
     refine if_wanted rfl ?_
     go_simp
     have bn : CBlk (D0.alloc (.cells #[.int .u8 0, .int .i16 0, .int .u8 0, .int .i16 0, .int .u8 0, .int .i16 0, .int .u8 0, .int .i16 0, .int .u8 0, .int .i16 0, .int .u8 0, .int .i16 0, .int .u8 0, .int .i16 0, .int .u8 0, .int .i16 0, .int .u8 0, .int .i16 0, .int .u8 0, .int .i16 0, .int .u8 0, .int .i16 0, .int .u8 0, .int .i16 0] 31)) D0.heap.size 31 noB := CBlk.new' rfl rfl
     have hn : W0.heap.size ≤ D0.heap.size := hHeld.size
     have hH2 : Below W0.heap.size W0 (D0.alloc (.cells #[.int .u8 0, .int .i16 0, .int .u8 0, .int .i16 0, .int .u8 0, .int .i16 0, .int .u8 0, .int .i16 0, .int .u8 0, .int .i16 0, .int .u8 0, .int .i16 0, .int .u8 0, .int .i16 0, .int .u8 0, .int .i16 0, .int .u8 0, .int .i16 0, .int .u8 0, .int .i16 0, .int .u8 0, .int .i16 0, .int .u8 0, .int .i16 0] 31)) := hHeld.alloc hHeld.size _
     obtain ⟨x36, hx⟩ : ∃ x, D0.alloc (.cells #[.int .u8 0, .int .i16 0, .int .u8 0, .int .i16 0, .int .u8 0, .int .i16 0, .int .u8 0, .int .i16 0, .int .u8 0, .int .i16 0, .int .u8 0, .int .i16 0, .int .u8 0, .int .i16 0, .int .u8 0, .int .i16 0, .int .u8 0, .int .i16 0, .int .u8 0, .int .i16 0, .int .u8 0, .int .i16 0, .int .u8 0, .int .i16 0] 31) = x := ⟨_, rfl⟩
     obtain ⟨N9, hN⟩ : ∃ N, D0.heap.size = N := ⟨_, rfl⟩
     rw [hx] at hH2 bn ⊢
     rw [hN] at hn bn ⊢
     have B9 := Lib.hid bn
     have H9 := Lib.hid hn
     clear bn hn hx hN hHeld
     refine hK.out _ _ hH2 (fun hHeld => ?_)
     clear hK K hH2
     try simp only [Act.put, zA, zB, zC, zD, zE, zF]
     refine wpAnyH_ready (rs := [1, 10]) (by kernel_rfl) (by simp) ?_
     refine AllReadyH.cons rfl (fun K hK => ?_) ?_
     ·skip
      refine if_wanted rfl ?_
      go_simp
      refine (toCrate_any a HA.out.1 _).mono ?_
      rintro e x37 ⟨rfl, hb⟩
      have hH2 : Below W0.heap.size W0 x37 := hHeld.trans (hb.mono hHeld.size)
      have C9 : Hid (CBlk x37 N9 31 noB) := B9.out.below hb B9.out.lt
      clear B9
      have B9 := C9
      clear C9
      clear hb hHeld
      dsimp only
      refine hK.out _ _ hH2 (fun hHeld => ?_)
      clear hK K hH2
      try simp only [Act.put, zA, zB, zC, zD, zE, zF]
      refine wpAnyH_ready (rs := [3, 10]) (by kernel_rfl) (by simp) ?_
      refine AllReadyH.cons rfl (fun K hK => ?_) ?_
      ·skip
       refine if_wanted rfl ?_
       go_simp
       refine (toCrate_any b HB.out.1 _).mono ?_
       rintro e x38 ⟨rfl, hb⟩
       have hH2 : Below W0.heap.size W0 x38 := hHeld.trans (hb.mono hHeld.size)
       have C9 : Hid (CBlk x38 N9 31 noB) := B9.out.below hb B9.out.lt
       clear B9
       have B9 := C9
       clear C9
       clear hb hHeld
       dsimp only
       refine hK.out _ _ hH2 (fun hHeld => ?_)
       clear hK K hH2
       try simp only [Act.put, zA, zB, zC, zD, zE, zF]
       refine wpAnyH_ready (rs := [4, 10]) (by kernel_rfl) (by simp) ?_
       refine AllReadyH.cons rfl (fun K hK => ?_) ?_
       ·skip
        refine if_wanted rfl ?_
        go_simp
        refine (HS.out _).mono ?_
        rintro e x39 ⟨rfl, hb⟩
        have hH2 : Below W0.heap.size W0 x39 := hHeld.trans (hb.mono hHeld.size)
        have C9 : Hid (CBlk x39 N9 31 noB) := B9.out.below hb B9.out.lt
        clear B9
        have B9 := C9
        clear C9
        clear hb hHeld
        dsimp only
        refine hK.out _ _ hH2 (fun hHeld => ?_)
        clear hK K hH2
        try simp only [Act.put, zA, zB, zC, zD, zE, zF]
        refine wpAnyH_take (i := 5) (v := .tuple #[.agg (ccells X).toArray, .agg (ccells Y).toArray, .int .i64 c]) rfl (by kernel_rfl) (by kernel_rfl) (by kernel_rfl) (fun _ _ _ ⟨_, _, h, _⟩ => nomatch h) (Or.inl ⟨by rfl, fun w _ => by go_simp⟩) (by assumption) ?_
        try simp only [Act.put, zA, zB, zC, zD, zE, zF]
        refine wpAnyH_take (i := 6) (v := .agg (ccells X).toArray) rfl (by kernel_rfl) (by kernel_rfl) (by kernel_rfl) (fun _ _ _ ⟨_, _, h, _⟩ => nomatch h) (Or.inl ⟨by rfl, fun w _ => by go_simp⟩) (by assumption) ?_
        try simp only [Act.put, zA, zB, zC, zD, zE, zF]
        refine wpAnyH_take (i := 7) (v := .agg (ccells Y).toArray) rfl (by kernel_rfl) (by kernel_rfl) (by kernel_rfl) (fun _ _ _ ⟨_, _, h, _⟩ => nomatch h) (Or.inl ⟨by rfl, fun w _ => by go_simp⟩) (by assumption) ?_
        try simp only [Act.put, zA, zB, zC, zD, zE, zF]
        refine wpAnyH_take (i := 8) (v := .int .i64 c) rfl (by kernel_rfl) (by kernel_rfl) (by kernel_rfl) (fun _ _ _ ⟨_, _, h, _⟩ => nomatch h) (Or.inl ⟨by rfl, fun w _ => by go_simp⟩) (by assumption) ?_
        try simp only [Act.put, zA, zB, zC, zD, zE, zF]
        refine wpAnyH_ready (rs := [10]) (by kernel_rfl) (by simp) ?_
        refine AllReadyH.cons rfl (fun K hK => ?_) AllReadyH.nil
        refine if_wanted rfl ?_
        go_simp
        have bn : CBlk (x39.alloc (.cells #[.int .u8 0, .int .i16 0, .int .u8 0, .int .i16 0, .int .u8 0, .int .i16 0, .int .u8 0, .int .i16 0, .int .u8 0, .int .i16 0, .int .u8 0, .int .i16 0, .int .u8 0, .int .i16 0, .int .u8 0, .int .i16 0, .int .u8 0, .int .i16 0, .int .u8 0, .int .i16 0, .int .u8 0, .int .i16 0, .int .u8 0, .int .i16 0] 31)) x39.heap.size 31 noB := CBlk.new' rfl rfl
        have hn : W0.heap.size ≤ x39.heap.size := hHeld.size
        have hH2 : Below W0.heap.size W0 (x39.alloc (.cells #[.int .u8 0, .int .i16 0, .int .u8 0, .int .i16 0, .int .u8 0, .int .i16 0, .int .u8 0, .int .i16 0, .int .u8 0, .int .i16 0, .int .u8 0, .int .i16 0, .int .u8 0, .int .i16 0, .int .u8 0, .int .i16 0, .int .u8 0, .int .i16 0, .int .u8 0, .int .i16 0, .int .u8 0, .int .i16 0, .int .u8 0, .int .i16 0] 31)) := hHeld.alloc hHeld.size _
        have C9 : Hid (CBlk (x39.alloc (.cells #[.int .u8 0, .int .i16 0, .int .u8 0, .int .i16 0, .int .u8 0, .int .i16 0, .int .u8 0, .int .i16 0, .int .u8 0, .int .i16 0, .int .u8 0, .int .i16 0, .int .u8 0, .int .i16 0, .int .u8 0, .int .i16 0, .int .u8 0, .int .i16 0, .int .u8 0, .int .i16 0, .int .u8 0, .int .i16 0, .int .u8 0, .int .i16 0] 31)) N9 31 noB) := B9.out.alloc _
        have hNE0 : N9 < x39.heap.size := B9.out.lt
        clear B9
        obtain ⟨x40, hx⟩ : ∃ x, x39.alloc (.cells #[.int .u8 0, .int .i16 0, .int .u8 0, .int .i16 0, .int .u8 0, .int .i16 0, .int .u8 0, .int .i16 0, .int .u8 0, .int .i16 0, .int .u8 0, .int .i16 0, .int .u8 0, .int .i16 0, .int .u8 0, .int .i16 0, .int .u8 0, .int .i16 0, .int .u8 0, .int .i16 0, .int .u8 0, .int .i16 0, .int .u8 0, .int .i16 0] 31) = x := ⟨_, rfl⟩
        obtain ⟨N10, hN⟩ : ∃ N, x39.heap.size = N := ⟨_, rfl⟩
        rw [hx] at hH2 bn C9 ⊢
        rw [hN] at hn bn hNE0 ⊢
        have B9 := C9
        clear C9
        have hNE := Lib.hid hNE0
        clear hNE0
        have B10 := Lib.hid bn
        have H10 := Lib.hid hn
        clear bn hn hx hN hHeld
        refine hK.out _ _ hH2 (fun hHeld => ?_)
        clear hK K hH2
        try simp only [Act.put, zA, zB, zC, zD, zE, zF]
        have HNE : Hid (N9 ≠ N10) := by have := hNE.out; show N9 ≠ N10; omega
        refine wpAnyH_ready (rs := [11]) (by kernel_rfl) (by simp) ?_
        refine AllReadyH.cons rfl (fun K hK => ?_) AllReadyH.nil
        refine if_wanted rfl (wp_store_row 31 (.tmp 5) (.tmp 17) rfl N9 (ccells X).toArray rfl rfl 31 _ B9.out (size_of_crate Tryd.sizeCr _ HX.out.1) (by show (ccells noB).toArray.size = _; rw [ccells_size _ HX.out.1]; rfl) (ccells_one _) ?_)
        refine hK.out _ _ (Below.setRow hHeld _ _ H9.out) (fun hHeld => ?_)
        clear hK K
        try simp only [Act.put, zA, zB, zC]
        refine wpAnyH_ready (rs := [12]) (by kernel_rfl) (by simp) ?_
        refine AllReadyH.cons rfl (fun K hK => ?_) AllReadyH.nil
        refine if_wanted rfl (wp_store_row 31 (.tmp 6) (.tmp 18) rfl N10 (ccells Y).toArray rfl rfl 31 _ (B10.out.rowOff (fun e => HNE.out e.symm) _) (size_of_crate Tryd.sizeCr _ HY.out.1) (by show (ccells noB).toArray.size = _; rw [ccells_size _ HY.out.1]; rfl) (ccells_one _) ?_)
        refine hK.out _ _ (Below.setRow hHeld _ _ H10.out) (fun hHeld => ?_)
        clear hK K
        try simp only [Act.put, zA, zB, zC]
        refine wpAnyH_ready (rs := [13]) (by kernel_rfl) (by simp) ?_
        refine AllReadyH.cons rfl (fun K hK => ?_) AllReadyH.nil
        refine if_wanted rfl ?_
        refine wp_assign0 rfl rfl ?_
        refine hK.out _ _ hHeld (fun hHeld => ?_)
        clear hK K
        try simp only [Act.put, zA, zB, zC, zD, zE, zF]
        exact wpAnyH_done (by kernel_rfl) ⟨N9, N10, rfl, rfl, (CBlk.setRow (Y := X) B9.out).rowOff HNE.out _, CBlk.setRow (Y := Y) (B10.out.rowOff (fun e => HNE.out e.symm) _), hHeld⟩ _
       refine AllReadyH.cons rfl (fun K hK => ?_) AllReadyH.nil
       refine if_wanted rfl ?_
       go_simp
       have bn : CBlk (x38.alloc (.cells #[.int .u8 0, .int .i16 0, .int .u8 0, .int .i16 0, .int .u8 0, .int .i16 0, .int .u8 0, .int .i16 0, .int .u8 0, .int .i16 0, .int .u8 0, .int .i16 0, .int .u8 0, .int .i16 0, .int .u8 0, .int .i16 0, .int .u8 0, .int .i16 0, .int .u8 0, .int .i16 0, .int .u8 0, .int .i16 0, .int .u8 0, .int .i16 0] 31)) x38.heap.size 31 noB := CBlk.new' rfl rfl
       have hn : W0.heap.size ≤ x38.heap.size := hHeld.size
       have hH2 : Below W0.heap.size W0 (x38.alloc (.cells #[.int .u8 0, .int .i16 0, .int .u8 0, .int .i16 0, .int .u8 0, .int .i16 0, .int .u8 0, .int .i16 0, .int .u8 0, .int .i16 0, .int .u8 0, .int .i16 0, .int .u8 0, .int .i16 0, .int .u8 0, .int .i16 0, .int .u8 0, .int .i16 0, .int .u8 0, .int .i16 0, .int .u8 0, .int .i16 0, .int .u8 0, .int .i16 0] 31)) := hHeld.alloc hHeld.size _
       have C9 : Hid (CBlk (x38.alloc (.cells #[.int .u8 0, .int .i16 0, .int .u8 0, .int .i16 0, .int .u8 0, .int .i16 0, .int .u8 0, .int .i16 0, .int .u8 0, .int .i16 0, .int .u8 0, .int .i16 0, .int .u8 0, .int .i16 0, .int .u8 0, .int .i16 0, .int .u8 0, .int .i16 0, .int .u8 0, .int .i16 0, .int .u8 0, .int .i16 0, .int .u8 0, .int .i16 0] 31)) N9 31 noB) := B9.out.alloc _
       have hNE0 : N9 < x38.heap.size := B9.out.lt
       clear B9
       obtain ⟨x41, hx⟩ : ∃ x, x38.alloc (.cells #[.int .u8 0, .int .i16 0, .int .u8 0, .int .i16 0, .int .u8 0, .int .i16 0, .int .u8 0, .int .i16 0, .int .u8 0, .int .i16 0, .int .u8 0, .int .i16 0, .int .u8 0, .int .i16 0, .int .u8 0, .int .i16 0, .int .u8 0, .int .i16 0, .int .u8 0, .int .i16 0, .int .u8 0, .int .i16 0, .int .u8 0, .int .i16 0] 31) = x := ⟨_, rfl⟩
       obtain ⟨N10, hN⟩ : ∃ N, x38.heap.size = N := ⟨_, rfl⟩
       rw [hx] at hH2 bn C9 ⊢
       rw [hN] at hn bn hNE0 ⊢
       have B9 := C9
       clear C9
       have hNE := Lib.hid hNE0
       clear hNE0
       have B10 := Lib.hid bn
       have H10 := Lib.hid hn
       clear bn hn hx hN hHeld
       refine hK.out _ _ hH2 (fun hHeld => ?_)
       clear hK K hH2
       try simp only [Act.put, zA, zB, zC, zD, zE, zF]
       refine wpAnyH_ready (rs := [4]) (by kernel_rfl) (by simp) ?_
       refine AllReadyH.cons rfl (fun K hK => ?_) AllReadyH.nil
       refine if_wanted rfl ?_
       go_simp
       refine (HS.out _).mono ?_
       rintro e x42 ⟨rfl, hb⟩
       have hH2 : Below W0.heap.size W0 x42 := hHeld.trans (hb.mono hHeld.size)
       have C9 : Hid (CBlk x42 N9 31 noB) := B9.out.below hb B9.out.lt
       clear B9
       have B9 := C9
       clear C9
       have C10 : Hid (CBlk x42 N10 31 noB) := B10.out.below hb B10.out.lt
       clear B10
       have B10 := C10
       clear C10
       clear hb hHeld
       dsimp only
       refine hK.out _ _ hH2 (fun hHeld => ?_)
       clear hK K hH2
       try simp only [Act.put, zA, zB, zC, zD, zE, zF]
       refine wpAnyH_take (i := 5) (v := .tuple #[.agg (ccells X).toArray, .agg (ccells Y).toArray, .int .i64 c]) rfl (by kernel_rfl) (by kernel_rfl) (by kernel_rfl) (fun _ _ _ ⟨_, _, h, _⟩ => nomatch h) (Or.inl ⟨by rfl, fun w _ => by go_simp⟩) (by assumption) ?_
       try simp only [Act.put, zA, zB, zC, zD, zE, zF]
       refine wpAnyH_take (i := 6) (v := .agg (ccells X).toArray) rfl (by kernel_rfl) (by kernel_rfl) (by kernel_rfl) (fun _ _ _ ⟨_, _, h, _⟩ => nomatch h) (Or.inl ⟨by rfl, fun w _ => by go_simp⟩) (by assumption) ?_
       try simp only [Act.put, zA, zB, zC, zD, zE, zF]
       refine wpAnyH_take (i := 7) (v := .agg (ccells Y).toArray) rfl (by kernel_rfl) (by kernel_rfl) (by kernel_rfl) (fun _ _ _ ⟨_, _, h, _⟩ => nomatch h) (Or.inl ⟨by rfl, fun w _ => by go_simp⟩) (by assumption) ?_
       try simp only [Act.put, zA, zB, zC, zD, zE, zF]
       refine wpAnyH_take (i := 8) (v := .int .i64 c) rfl (by kernel_rfl) (by kernel_rfl) (by kernel_rfl) (fun _ _ _ ⟨_, _, h, _⟩ => nomatch h) (Or.inl ⟨by rfl, fun w _ => by go_simp⟩) (by assumption) ?_
       try simp only [Act.put, zA, zB, zC, zD, zE, zF]
       have HNE : Hid (N9 ≠ N10) := by have := hNE.out; show N9 ≠ N10; omega
       refine wpAnyH_ready (rs := [11]) (by kernel_rfl) (by simp) ?_
       refine AllReadyH.cons rfl (fun K hK => ?_) AllReadyH.nil
       refine if_wanted rfl (wp_store_row 31 (.tmp 5) (.tmp 17) rfl N9 (ccells X).toArray rfl rfl 31 _ B9.out (size_of_crate Tryd.sizeCr _ HX.out.1) (by show (ccells noB).toArray.size = _; rw [ccells_size _ HX.out.1]; rfl) (ccells_one _) ?_)
       refine hK.out _ _ (Below.setRow hHeld _ _ H9.out) (fun hHeld => ?_)
       clear hK K
       try simp only [Act.put, zA, zB, zC]
       refine wpAnyH_ready (rs := [12]) (by kernel_rfl) (by simp) ?_
       refine AllReadyH.cons rfl (fun K hK => ?_) AllReadyH.nil
       refine if_wanted rfl (wp_store_row 31 (.tmp 6) (.tmp 18) rfl N10 (ccells Y).toArray rfl rfl 31 _ (B10.out.rowOff (fun e => HNE.out e.symm) _) (size_of_crate Tryd.sizeCr _ HY.out.1) (by show (ccells noB).toArray.size = _; rw [ccells_size _ HY.out.1]; rfl) (ccells_one _) ?_)
       refine hK.out _ _ (Below.setRow hHeld _ _ H10.out) (fun hHeld => ?_)
       clear hK K
       try simp only [Act.put, zA, zB, zC]
       refine wpAnyH_ready (rs := [13]) (by kernel_rfl) (by simp) ?_
       refine AllReadyH.cons rfl (fun K hK => ?_) AllReadyH.nil
       refine if_wanted rfl ?_
       refine wp_assign0 rfl rfl ?_
       refine hK.out _ _ hHeld (fun hHeld => ?_)
       clear hK K
       try simp only [Act.put, zA, zB, zC, zD, zE, zF]
       exact wpAnyH_done (by kernel_rfl) ⟨N9, N10, rfl, rfl, (CBlk.setRow (Y := X) B9.out).rowOff HNE.out _, CBlk.setRow (Y := Y) (B10.out.rowOff (fun e => HNE.out e.symm) _), hHeld⟩ _
      refine AllReadyH.cons rfl (fun K hK => ?_) AllReadyH.nil
      refine if_wanted rfl ?_
      go_simp
      have bn : CBlk (x37.alloc (.cells #[.int .u8 0, .int .i16 0, .int .u8 0, .int .i16 0, .int .u8 0, .int .i16 0, .int .u8 0, .int .i16 0, .int .u8 0, .int .i16 0, .int .u8 0, .int .i16 0, .int .u8 0, .int .i16 0, .int .u8 0, .int .i16 0, .int .u8 0, .int .i16 0, .int .u8 0, .int .i16 0, .int .u8 0, .int .i16 0, .int .u8 0, .int .i16 0] 31)) x37.heap.size 31 noB := CBlk.new' rfl rfl
      have hn : W0.heap.size ≤ x37.heap.size := hHeld.size
      have hH2 : Below W0.heap.size W0 (x37.alloc (.cells #[.int .u8 0, .int .i16 0, .int .u8 0, .int .i16 0, .int .u8 0, .int .i16 0, .int .u8 0, .int .i16 0, .int .u8 0, .int .i16 0, .int .u8 0, .int .i16 0, .int .u8 0, .int .i16 0, .int .u8 0, .int .i16 0, .int .u8 0, .int .i16 0, .int .u8 0, .int .i16 0, .int .u8 0, .int .i16 0, .int .u8 0, .int .i16 0] 31)) := hHeld.alloc hHeld.size _
      have C9 : Hid (CBlk (x37.alloc (.cells #[.int .u8 0, .int .i16 0, .int .u8 0, .int .i16 0, .int .u8 0, .int .i16 0, .int .u8 0, .int .i16 0, .int .u8 0, .int .i16 0, .int .u8 0, .int .i16 0, .int .u8 0, .int .i16 0, .int .u8 0, .int .i16 0, .int .u8 0, .int .i16 0, .int .u8 0, .int .i16 0, .int .u8 0, .int .i16 0, .int .u8 0, .int .i16 0] 31)) N9 31 noB) := B9.out.alloc _
      have hNE0 : N9 < x37.heap.size := B9.out.lt
      clear B9
      obtain ⟨x43, hx⟩ : ∃ x, x37.alloc (.cells #[.int .u8 0, .int .i16 0, .int .u8 0, .int .i16 0, .int .u8 0, .int .i16 0, .int .u8 0, .int .i16 0, .int .u8 0, .int .i16 0, .int .u8 0, .int .i16 0, .int .u8 0, .int .i16 0, .int .u8 0, .int .i16 0, .int .u8 0, .int .i16 0, .int .u8 0, .int .i16 0, .int .u8 0, .int .i16 0, .int .u8 0, .int .i16 0] 31) = x := ⟨_, rfl⟩
      obtain ⟨N10, hN⟩ : ∃ N, x37.heap.size = N := ⟨_, rfl⟩
      rw [hx] at hH2 bn C9 ⊢
      rw [hN] at hn bn hNE0 ⊢
      have B9 := C9
      clear C9
      have hNE := Lib.hid hNE0
      clear hNE0
      have B10 := Lib.hid bn
      have H10 := Lib.hid hn
      clear bn hn hx hN hHeld
      refine hK.out _ _ hH2 (fun hHeld => ?_)
      clear hK K hH2
      try simp only [Act.put, zA, zB, zC, zD, zE, zF]
      refine wpAnyH_ready (rs := [3]) (by kernel_rfl) (by simp) ?_
      refine AllReadyH.cons rfl (fun K hK => ?_) AllReadyH.nil
      refine if_wanted rfl ?_
      go_simp
      refine (toCrate_any b HB.out.1 _).mono ?_
      rintro e x44 ⟨rfl, hb⟩
      have hH2 : Below W0.heap.size W0 x44 := hHeld.trans (hb.mono hHeld.size)
      have C9 : Hid (CBlk x44 N9 31 noB) := B9.out.below hb B9.out.lt
      clear B9
      have B9 := C9
      clear C9
      have C10 : Hid (CBlk x44 N10 31 noB) := B10.out.below hb B10.out.lt
      clear B10
      have B10 := C10
      clear C10
      clear hb hHeld
      dsimp only
      refine hK.out _ _ hH2 (fun hHeld => ?_)
      clear hK K hH2
      try simp only [Act.put, zA, zB, zC, zD, zE, zF]
      refine wpAnyH_ready (rs := [4]) (by kernel_rfl) (by simp) ?_
      refine AllReadyH.cons rfl (fun K hK => ?_) AllReadyH.nil
      refine if_wanted rfl ?_
      go_simp
      refine (HS.out _).mono ?_
      rintro e x45 ⟨rfl, hb⟩
      have hH2 : Below W0.heap.size W0 x45 := hHeld.trans (hb.mono hHeld.size)
      have C9 : Hid (CBlk x45 N9 31 noB) := B9.out.below hb B9.out.lt
      clear B9
      have B9 := C9
      clear C9
      have C10 : Hid (CBlk x45 N10 31 noB) := B10.out.below hb B10.out.lt
      clear B10
      have B10 := C10
      clear C10
      clear hb hHeld
      dsimp only
      refine hK.out _ _ hH2 (fun hHeld => ?_)
      clear hK K hH2
      try simp only [Act.put, zA, zB, zC, zD, zE, zF]
      refine wpAnyH_take (i := 5) (v := .tuple #[.agg (ccells X).toArray, .agg (ccells Y).toArray, .int .i64 c]) rfl (by kernel_rfl) (by kernel_rfl) (by kernel_rfl) (fun _ _ _ ⟨_, _, h, _⟩ => nomatch h) (Or.inl ⟨by rfl, fun w _ => by go_simp⟩) (by assumption) ?_
      try simp only [Act.put, zA, zB, zC, zD, zE, zF]
      refine wpAnyH_take (i := 6) (v := .agg (ccells X).toArray) rfl (by kernel_rfl) (by kernel_rfl) (by kernel_rfl) (fun _ _ _ ⟨_, _, h, _⟩ => nomatch h) (Or.inl ⟨by rfl, fun w _ => by go_simp⟩) (by assumption) ?_
      try simp only [Act.put, zA, zB, zC, zD, zE, zF]
      refine wpAnyH_take (i := 7) (v := .agg (ccells Y).toArray) rfl (by kernel_rfl) (by kernel_rfl) (by kernel_rfl) (fun _ _ _ ⟨_, _, h, _⟩ => nomatch h) (Or.inl ⟨by rfl, fun w _ => by go_simp⟩) (by assumption) ?_
      try simp only [Act.put, zA, zB, zC, zD, zE, zF]
      refine wpAnyH_take (i := 8) (v := .int .i64 c) rfl (by kernel_rfl) (by kernel_rfl) (by kernel_rfl) (fun _ _ _ ⟨_, _, h, _⟩ => nomatch h) (Or.inl ⟨by rfl, fun w _ => by go_simp⟩) (by assumption) ?_
      try simp only [Act.put, zA, zB, zC, zD, zE, zF]
      have HNE : Hid (N9 ≠ N10) := by have := hNE.out; show N9 ≠ N10; omega
      refine wpAnyH_ready (rs := [11]) (by kernel_rfl) (by simp) ?_
      refine AllReadyH.cons rfl (fun K hK => ?_) AllReadyH.nil
      refine if_wanted rfl (wp_store_row 31 (.tmp 5) (.tmp 17) rfl N9 (ccells X).toArray rfl rfl 31 _ B9.out (size_of_crate Tryd.sizeCr _ HX.out.1) (by show (ccells noB).toArray.size = _; rw [ccells_size _ HX.out.1]; rfl) (ccells_one _) ?_)
      refine hK.out _ _ (Below.setRow hHeld _ _ H9.out) (fun hHeld => ?_)
      clear hK K
      try simp only [Act.put, zA, zB, zC]
      refine wpAnyH_ready (rs := [12]) (by kernel_rfl) (by simp) ?_
      refine AllReadyH.cons rfl (fun K hK => ?_) AllReadyH.nil
      refine if_wanted rfl (wp_store_row 31 (.tmp 6) (.tmp 18) rfl N10 (ccells Y).toArray rfl rfl 31 _ (B10.out.rowOff (fun e => HNE.out e.symm) _) (size_of_crate Tryd.sizeCr _ HY.out.1) (by show (ccells noB).toArray.size = _; rw [ccells_size _ HY.out.1]; rfl) (ccells_one _) ?_)
      refine hK.out _ _ (Below.setRow hHeld _ _ H10.out) (fun hHeld => ?_)
      clear hK K
      try simp only [Act.put, zA, zB, zC]
      refine wpAnyH_ready (rs := [13]) (by kernel_rfl) (by simp) ?_
      refine AllReadyH.cons rfl (fun K hK => ?_) AllReadyH.nil
      refine if_wanted rfl ?_
      refine wp_assign0 rfl rfl ?_
      refine hK.out _ _ hHeld (fun hHeld => ?_)
      clear hK K
      try simp only [Act.put, zA, zB, zC, zD, zE, zF]
      exact wpAnyH_done (by kernel_rfl) ⟨N9, N10, rfl, rfl, (CBlk.setRow (Y := X) B9.out).rowOff HNE.out _, CBlk.setRow (Y := Y) (B10.out.rowOff (fun e => HNE.out e.symm) _), hHeld⟩ _
     refine AllReadyH.cons rfl (fun K hK => ?_) AllReadyH.nil
     refine if_wanted rfl ?_
     go_simp
     have bn : CBlk (x36.alloc (.cells #[.int .u8 0, .int .i16 0, .int .u8 0, .int .i16 0, .int .u8 0, .int .i16 0, .int .u8 0, .int .i16 0, .int .u8 0, .int .i16 0, .int .u8 0, .int .i16 0, .int .u8 0, .int .i16 0, .int .u8 0, .int .i16 0, .int .u8 0, .int .i16 0, .int .u8 0, .int .i16 0, .int .u8 0, .int .i16 0, .int .u8 0, .int .i16 0] 31)) x36.heap.size 31 noB := CBlk.new' rfl rfl
     have hn : W0.heap.size ≤ x36.heap.size := hHeld.size
     have hH2 : Below W0.heap.size W0 (x36.alloc (.cells #[.int .u8 0, .int .i16 0, .int .u8 0, .int .i16 0, .int .u8 0, .int .i16 0, .int .u8 0, .int .i16 0, .int .u8 0, .int .i16 0, .int .u8 0, .int .i16 0, .int .u8 0, .int .i16 0, .int .u8 0, .int .i16 0, .int .u8 0, .int .i16 0, .int .u8 0, .int .i16 0, .int .u8 0, .int .i16 0, .int .u8 0, .int .i16 0] 31)) := hHeld.alloc hHeld.size _
     have C9 : Hid (CBlk (x36.alloc (.cells #[.int .u8 0, .int .i16 0, .int .u8 0, .int .i16 0, .int .u8 0, .int .i16 0, .int .u8 0, .int .i16 0, .int .u8 0, .int .i16 0, .int .u8 0, .int .i16 0, .int .u8 0, .int .i16 0, .int .u8 0, .int .i16 0, .int .u8 0, .int .i16 0, .int .u8 0, .int .i16 0, .int .u8 0, .int .i16 0, .int .u8 0, .int .i16 0] 31)) N9 31 noB) := B9.out.alloc _
     have hNE0 : N9 < x36.heap.size := B9.out.lt
     clear B9
     obtain ⟨x46, hx⟩ : ∃ x, x36.alloc (.cells #[.int .u8 0, .int .i16 0, .int .u8 0, .int .i16 0, .int .u8 0, .int .i16 0, .int .u8 0, .int .i16 0, .int .u8 0, .int .i16 0, .int .u8 0, .int .i16 0, .int .u8 0, .int .i16 0, .int .u8 0, .int .i16 0, .int .u8 0, .int .i16 0, .int .u8 0, .int .i16 0, .int .u8 0, .int .i16 0, .int .u8 0, .int .i16 0] 31) = x := ⟨_, rfl⟩
     obtain ⟨N10, hN⟩ : ∃ N, x36.heap.size = N := ⟨_, rfl⟩
     rw [hx] at hH2 bn C9 ⊢
     rw [hN] at hn bn hNE0 ⊢
     have B9 := C9
     clear C9
     have hNE := Lib.hid hNE0
     clear hNE0
     have B10 := Lib.hid bn
     have H10 := Lib.hid hn
     clear bn hn hx hN hHeld
     refine hK.out _ _ hH2 (fun hHeld => ?_)
     clear hK K hH2
     try simp only [Act.put, zA, zB, zC, zD, zE, zF]
     refine wpAnyH_ready (rs := [1]) (by kernel_rfl) (by simp) ?_
     refine AllReadyH.cons rfl (fun K hK => ?_) AllReadyH.nil
     refine if_wanted rfl ?_
     go_simp
     refine (toCrate_any a HA.out.1 _).mono ?_
     rintro e x47 ⟨rfl, hb⟩
     have hH2 : Below W0.heap.size W0 x47 := hHeld.trans (hb.mono hHeld.size)
     have C9 : Hid (CBlk x47 N9 31 noB) := B9.out.below hb B9.out.lt
     clear B9
     have B9 := C9
     clear C9
     have C10 : Hid (CBlk x47 N10 31 noB) := B10.out.below hb B10.out.lt
     clear B10
     have B10 := C10
     clear C10
     clear hb hHeld
     dsimp only
     refine hK.out _ _ hH2 (fun hHeld => ?_)
     clear hK K hH2
     try simp only [Act.put, zA, zB, zC, zD, zE, zF]
     refine wpAnyH_ready (rs := [3]) (by kernel_rfl) (by simp) ?_
     refine AllReadyH.cons rfl (fun K hK => ?_) AllReadyH.nil
     refine if_wanted rfl ?_
     go_simp
     refine (toCrate_any b HB.out.1 _).mono ?_
     rintro e x48 ⟨rfl, hb⟩
     have hH2 : Below W0.heap.size W0 x48 := hHeld.trans (hb.mono hHeld.size)
     have C9 : Hid (CBlk x48 N9 31 noB) := B9.out.below hb B9.out.lt
     clear B9
     have B9 := C9
     clear C9
     have C10 : Hid (CBlk x48 N10 31 noB) := B10.out.below hb B10.out.lt
     clear B10
     have B10 := C10
     clear C10
     clear hb hHeld
     dsimp only
     refine hK.out _ _ hH2 (fun hHeld => ?_)
     clear hK K hH2
     try simp only [Act.put, zA, zB, zC, zD, zE, zF]
     refine wpAnyH_ready (rs := [4]) (by kernel_rfl) (by simp) ?_
     refine AllReadyH.cons rfl (fun K hK => ?_) AllReadyH.nil
     refine if_wanted rfl ?_
     go_simp
     refine (HS.out _).mono ?_
     rintro e x49 ⟨rfl, hb⟩
     have hH2 : Below W0.heap.size W0 x49 := hHeld.trans (hb.mono hHeld.size)
     have C9 : Hid (CBlk x49 N9 31 noB) := B9.out.below hb B9.out.lt
     clear B9
     have B9 := C9
     clear C9
     have C10 : Hid (CBlk x49 N10 31 noB) := B10.out.below hb B10.out.lt
     clear B10
     have B10 := C10
     clear C10
     clear hb hHeld
     dsimp only
     refine hK.out _ _ hH2 (fun hHeld => ?_)
     clear hK K hH2
     try simp only [Act.put, zA, zB, zC, zD, zE, zF]
     refine wpAnyH_take (i := 5) (v := .tuple #[.agg (ccells X).toArray, .agg (ccells Y).toArray, .int .i64 c]) rfl (by kernel_rfl) (by kernel_rfl) (by kernel_rfl) (fun _ _ _ ⟨_, _, h, _⟩ => nomatch h) (Or.inl ⟨by rfl, fun w _ => by go_simp⟩) (by assumption) ?_
     try simp only [Act.put, zA, zB, zC, zD, zE, zF]
     refine wpAnyH_take (i := 6) (v := .agg (ccells X).toArray) rfl (by kernel_rfl) (by kernel_rfl) (by kernel_rfl) (fun _ _ _ ⟨_, _, h, _⟩ => nomatch h) (Or.inl ⟨by rfl, fun w _ => by go_simp⟩) (by assumption) ?_
     try simp only [Act.put, zA, zB, zC, zD, zE, zF]
     refine wpAnyH_take (i := 7) (v := .agg (ccells Y).toArray) rfl (by kernel_rfl) (by kernel_rfl) (by kernel_rfl) (fun _ _ _ ⟨_, _, h, _⟩ => nomatch h) (Or.inl ⟨by rfl, fun w _ => by go_simp⟩) (by assumption) ?_
     try simp only [Act.put, zA, zB, zC, zD, zE, zF]
     refine wpAnyH_take (i := 8) (v := .int .i64 c) rfl (by kernel_rfl) (by kernel_rfl) (by kernel_rfl) (fun _ _ _ ⟨_, _, h, _⟩ => nomatch h) (Or.inl ⟨by rfl, fun w _ => by go_simp⟩) (by assumption) ?_
     try simp only [Act.put, zA, zB, zC, zD, zE, zF]
     have HNE : Hid (N9 ≠ N10) := by have := hNE.out; show N9 ≠ N10; omega
     refine wpAnyH_ready (rs := [11]) (by kernel_rfl) (by simp) ?_
     refine AllReadyH.cons rfl (fun K hK => ?_) AllReadyH.nil
     refine if_wanted rfl (wp_store_row 31 (.tmp 5) (.tmp 17) rfl N9 (ccells X).toArray rfl rfl 31 _ B9.out (size_of_crate Tryd.sizeCr _ HX.out.1) (by show (ccells noB).toArray.size = _; rw [ccells_size _ HX.out.1]; rfl) (ccells_one _) ?_)
     refine hK.out _ _ (Below.setRow hHeld _ _ H9.out) (fun hHeld => ?_)
     clear hK K
     try simp only [Act.put, zA, zB, zC]
     refine wpAnyH_ready (rs := [12]) (by kernel_rfl) (by simp) ?_
     refine AllReadyH.cons rfl (fun K hK => ?_) AllReadyH.nil
     refine if_wanted rfl (wp_store_row 31 (.tmp 6) (.tmp 18) rfl N10 (ccells Y).toArray rfl rfl 31 _ (B10.out.rowOff (fun e => HNE.out e.symm) _) (size_of_crate Tryd.sizeCr _ HY.out.1) (by show (ccells noB).toArray.size = _; rw [ccells_size _ HY.out.1]; rfl) (ccells_one _) ?_)
     refine hK.out _ _ (Below.setRow hHeld _ _ H10.out) (fun hHeld => ?_)
     clear hK K
     try simp only [Act.put, zA, zB, zC]
     refine wpAnyH_ready (rs := [13]) (by kernel_rfl) (by simp) ?_
     refine AllReadyH.cons rfl (fun K hK => ?_) AllReadyH.nil
     refine if_wanted rfl ?_
     refine wp_assign0 rfl rfl ?_
     refine hK.out _ _ hHeld (fun hHeld => ?_)
     clear hK K
     try simp only [Act.put, zA, zB, zC, zD, zE, zF]
     exact wpAnyH_done (by kernel_rfl) ⟨N9, N10, rfl, rfl, (CBlk.setRow (Y := X) B9.out).rowOff HNE.out _, CBlk.setRow (Y := Y) (B10.out.rowOff (fun e => HNE.out e.symm) _), hHeld⟩ _
    refine AllReadyH.cons rfl (fun K hK => ?_) AllReadyH.nil
    refine if_wanted rfl ?_
    go_simp
    have bn : CBlk (D0.alloc (.cells #[.int .u8 0, .int .i16 0, .int .u8 0, .int .i16 0, .int .u8 0, .int .i16 0, .int .u8 0, .int .i16 0, .int .u8 0, .int .i16 0, .int .u8 0, .int .i16 0, .int .u8 0, .int .i16 0, .int .u8 0, .int .i16 0, .int .u8 0, .int .i16 0, .int .u8 0, .int .i16 0, .int .u8 0, .int .i16 0, .int .u8 0, .int .i16 0] 31)) D0.heap.size 31 noB := CBlk.new' rfl rfl
    have hn : W0.heap.size ≤ D0.heap.size := hHeld.size
    have hH2 : Below W0.heap.size W0 (D0.alloc (.cells #[.int .u8 0, .int .i16 0, .int .u8 0, .int .i16 0, .int .u8 0, .int .i16 0, .int .u8 0, .int .i16 0, .int .u8 0, .int .i16 0, .int .u8 0, .int .i16 0, .int .u8 0, .int .i16 0, .int .u8 0, .int .i16 0, .int .u8 0, .int .i16 0, .int .u8 0, .int .i16 0, .int .u8 0, .int .i16 0, .int .u8 0, .int .i16 0] 31)) := hHeld.alloc hHeld.size _
    obtain ⟨x50, hx⟩ : ∃ x, D0.alloc (.cells #[.int .u8 0, .int .i16 0, .int .u8 0, .int .i16 0, .int .u8 0, .int .i16 0, .int .u8 0, .int .i16 0, .int .u8 0, .int .i16 0, .int .u8 0, .int .i16 0, .int .u8 0, .int .i16 0, .int .u8 0, .int .i16 0, .int .u8 0, .int .i16 0, .int .u8 0, .int .i16 0, .int .u8 0, .int .i16 0, .int .u8 0, .int .i16 0] 31) = x := ⟨_, rfl⟩
    obtain ⟨N10, hN⟩ : ∃ N, D0.heap.size = N := ⟨_, rfl⟩
    rw [hx] at hH2 bn ⊢
    rw [hN] at hn bn ⊢
    have B10 := Lib.hid bn
    have H10 := Lib.hid hn
    clear bn hn hx hN hHeld
    refine hK.out _ _ hH2 (fun hHeld => ?_)
    clear hK K hH2
    try simp only [Act.put, zA, zB, zC, zD, zE, zF]
    refine wpAnyH_ready (rs := [1, 9]) (by kernel_rfl) (by simp) ?_
    refine AllReadyH.cons rfl (fun K hK => ?_) ?_
    ·skip
     refine if_wanted rfl ?_
     go_simp
     refine (toCrate_any a HA.out.1 _).mono ?_
     rintro e x51 ⟨rfl, hb⟩
     have hH2 : Below W0.heap.size W0 x51 := hHeld.trans (hb.mono hHeld.size)
     have C10 : Hid (CBlk x51 N10 31 noB) := B10.out.below hb B10.out.lt
     clear B10
     have B10 := C10
     clear C10
     clear hb hHeld
     dsimp only
     refine hK.out _ _ hH2 (fun hHeld => ?_)
     clear hK K hH2
     try simp only [Act.put, zA, zB, zC, zD, zE, zF]
     refine wpAnyH_ready (rs := [3, 9]) (by kernel_rfl) (by simp) ?_
     refine AllReadyH.cons rfl (fun K hK => ?_) ?_
     ·skip
      refine if_wanted rfl ?_
      go_simp
      refine (toCrate_any b HB.out.1 _).mono ?_
      rintro e x52 ⟨rfl, hb⟩
      have hH2 : Below W0.heap.size W0 x52 := hHeld.trans (hb.mono hHeld.size)
      have C10 : Hid (CBlk x52 N10 31 noB) := B10.out.below hb B10.out.lt
      clear B10
      have B10 := C10
      clear C10
      clear hb hHeld
      dsimp only
      refine hK.out _ _ hH2 (fun hHeld => ?_)
      clear hK K hH2
      try simp only [Act.put, zA, zB, zC, zD, zE, zF]
      refine wpAnyH_ready (rs := [4, 9]) (by kernel_rfl) (by simp) ?_
      refine AllReadyH.cons rfl (fun K hK => ?_) ?_
      ·skip
       refine if_wanted rfl ?_
       go_simp
       refine (HS.out _).mono ?_
       rintro e x53 ⟨rfl, hb⟩
       have hH2 : Below W0.heap.size W0 x53 := hHeld.trans (hb.mono hHeld.size)
       have C10 : Hid (CBlk x53 N10 31 noB) := B10.out.below hb B10.out.lt
       clear B10
       have B10 := C10
       clear C10
       clear hb hHeld
       dsimp only
       refine hK.out _ _ hH2 (fun hHeld => ?_)
       clear hK K hH2
       try simp only [Act.put, zA, zB, zC, zD, zE, zF]
       refine wpAnyH_take (i := 5) (v := .tuple #[.agg (ccells X).toArray, .agg (ccells Y).toArray, .int .i64 c]) rfl (by kernel_rfl) (by kernel_rfl) (by kernel_rfl) (fun _ _ _ ⟨_, _, h, _⟩ => nomatch h) (Or.inl ⟨by rfl, fun w _ => by go_simp⟩) (by assumption) ?_
       try simp only [Act.put, zA, zB, zC, zD, zE, zF]
       refine wpAnyH_take (i := 6) (v := .agg (ccells X).toArray) rfl (by kernel_rfl) (by kernel_rfl) (by kernel_rfl) (fun _ _ _ ⟨_, _, h, _⟩ => nomatch h) (Or.inl ⟨by rfl, fun w _ => by go_simp⟩) (by assumption) ?_
       try simp only [Act.put, zA, zB, zC, zD, zE, zF]
       refine wpAnyH_take (i := 7) (v := .agg (ccells Y).toArray) rfl (by kernel_rfl) (by kernel_rfl) (by kernel_rfl) (fun _ _ _ ⟨_, _, h, _⟩ => nomatch h) (Or.inl ⟨by rfl, fun w _ => by go_simp⟩) (by assumption) ?_
       try simp only [Act.put, zA, zB, zC, zD, zE, zF]
       refine wpAnyH_take (i := 8) (v := .int .i64 c) rfl (by kernel_rfl) (by kernel_rfl) (by kernel_rfl) (fun _ _ _ ⟨_, _, h, _⟩ => nomatch h) (Or.inl ⟨by rfl, fun w _ => by go_simp⟩) (by assumption) ?_
       try simp only [Act.put, zA, zB, zC, zD, zE, zF]
       refine wpAnyH_ready (rs := [9]) (by kernel_rfl) (by simp) ?_
       refine AllReadyH.cons rfl (fun K hK => ?_) AllReadyH.nil
       refine if_wanted rfl ?_
       go_simp
       have bn : CBlk (x53.alloc (.cells #[.int .u8 0, .int .i16 0, .int .u8 0, .int .i16 0, .int .u8 0, .int .i16 0, .int .u8 0, .int .i16 0, .int .u8 0, .int .i16 0, .int .u8 0, .int .i16 0, .int .u8 0, .int .i16 0, .int .u8 0, .int .i16 0, .int .u8 0, .int .i16 0, .int .u8 0, .int .i16 0, .int .u8 0, .int .i16 0, .int .u8 0, .int .i16 0] 31)) x53.heap.size 31 noB := CBlk.new' rfl rfl
       have hn : W0.heap.size ≤ x53.heap.size := hHeld.size
       have hH2 : Below W0.heap.size W0 (x53.alloc (.cells #[.int .u8 0, .int .i16 0, .int .u8 0, .int .i16 0, .int .u8 0, .int .i16 0, .int .u8 0, .int .i16 0, .int .u8 0, .int .i16 0, .int .u8 0, .int .i16 0, .int .u8 0, .int .i16 0, .int .u8 0, .int .i16 0, .int .u8 0, .int .i16 0, .int .u8 0, .int .i16 0, .int .u8 0, .int .i16 0, .int .u8 0, .int .i16 0] 31)) := hHeld.alloc hHeld.size _
       have C10 : Hid (CBlk (x53.alloc (.cells #[.int .u8 0, .int .i16 0, .int .u8 0, .int .i16 0, .int .u8 0, .int .i16 0, .int .u8 0, .int .i16 0, .int .u8 0, .int .i16 0, .int .u8 0, .int .i16 0, .int .u8 0, .int .i16 0, .int .u8 0, .int .i16 0, .int .u8 0, .int .i16 0, .int .u8 0, .int .i16 0, .int .u8 0, .int .i16 0, .int .u8 0, .int .i16 0] 31)) N10 31 noB) := B10.out.alloc _
       have hNE0 : N10 < x53.heap.size := B10.out.lt
       clear B10
       obtain ⟨x54, hx⟩ : ∃ x, x53.alloc (.cells #[.int .u8 0, .int .i16 0, .int .u8 0, .int .i16 0, .int .u8 0, .int .i16 0, .int .u8 0, .int .i16 0, .int .u8 0, .int .i16 0, .int .u8 0, .int .i16 0, .int .u8 0, .int .i16 0, .int .u8 0, .int .i16 0, .int .u8 0, .int .i16 0, .int .u8 0, .int .i16 0, .int .u8 0, .int .i16 0, .int .u8 0, .int .i16 0] 31) = x := ⟨_, rfl⟩
       obtain ⟨N9, hN⟩ : ∃ N, x53.heap.size = N := ⟨_, rfl⟩
       rw [hx] at hH2 bn C10 ⊢
       rw [hN] at hn bn hNE0 ⊢
       have B10 := C10
       clear C10
       have hNE := Lib.hid hNE0
       clear hNE0
       have B9 := Lib.hid bn
       have H9 := Lib.hid hn
       clear bn hn hx hN hHeld
       refine hK.out _ _ hH2 (fun hHeld => ?_)
       clear hK K hH2
       try simp only [Act.put, zA, zB, zC, zD, zE, zF]
       have HNE : Hid (N9 ≠ N10) := by have := hNE.out; show N9 ≠ N10; omega
       refine wpAnyH_ready (rs := [11]) (by kernel_rfl) (by simp) ?_
       refine AllReadyH.cons rfl (fun K hK => ?_) AllReadyH.nil
       refine if_wanted rfl (wp_store_row 31 (.tmp 5) (.tmp 17) rfl N9 (ccells X).toArray rfl rfl 31 _ B9.out (size_of_crate Tryd.sizeCr _ HX.out.1) (by show (ccells noB).toArray.size = _; rw [ccells_size _ HX.out.1]; rfl) (ccells_one _) ?_)
       refine hK.out _ _ (Below.setRow hHeld _ _ H9.out) (fun hHeld => ?_)
       clear hK K
       try simp only [Act.put, zA, zB, zC]
       refine wpAnyH_ready (rs := [12]) (by kernel_rfl) (by simp) ?_
       refine AllReadyH.cons rfl (fun K hK => ?_) AllReadyH.nil
       refine if_wanted rfl (wp_store_row 31 (.tmp 6) (.tmp 18) rfl N10 (ccells Y).toArray rfl rfl 31 _ (B10.out.rowOff (fun e => HNE.out e.symm) _) (size_of_crate Tryd.sizeCr _ HY.out.1) (by show (ccells noB).toArray.size = _; rw [ccells_size _ HY.out.1]; rfl) (ccells_one _) ?_)
       refine hK.out _ _ (Below.setRow hHeld _ _ H10.out) (fun hHeld => ?_)
       clear hK K
       try simp only [Act.put, zA, zB, zC]
       refine wpAnyH_ready (rs := [13]) (by kernel_rfl) (by simp) ?_
       refine AllReadyH.cons rfl (fun K hK => ?_) AllReadyH.nil
       refine if_wanted rfl ?_
       refine wp_assign0 rfl rfl ?_
       refine hK.out _ _ hHeld (fun hHeld => ?_)
       clear hK K
       try simp only [Act.put, zA, zB, zC, zD, zE, zF]
       exact wpAnyH_done (by kernel_rfl) ⟨N9, N10, rfl, rfl, (CBlk.setRow (Y := X) B9.out).rowOff HNE.out _, CBlk.setRow (Y := Y) (B10.out.rowOff (fun e => HNE.out e.symm) _), hHeld⟩ _
      refine AllReadyH.cons rfl (fun K hK => ?_) AllReadyH.nil
      refine if_wanted rfl ?_
      go_simp
      have bn : CBlk (x52.alloc (.cells #[.int .u8 0, .int .i16 0, .int .u8 0, .int .i16 0, .int .u8 0, .int .i16 0, .int .u8 0, .int .i16 0, .int .u8 0, .int .i16 0, .int .u8 0, .int .i16 0, .int .u8 0, .int .i16 0, .int .u8 0, .int .i16 0, .int .u8 0, .int .i16 0, .int .u8 0, .int .i16 0, .int .u8 0, .int .i16 0, .int .u8 0, .int .i16 0] 31)) x52.heap.size 31 noB := CBlk.new' rfl rfl
      have hn : W0.heap.size ≤ x52.heap.size := hHeld.size
      have hH2 : Below W0.heap.size W0 (x52.alloc (.cells #[.int .u8 0, .int .i16 0, .int .u8 0, .int .i16 0, .int .u8 0, .int .i16 0, .int .u8 0, .int .i16 0, .int .u8 0, .int .i16 0, .int .u8 0, .int .i16 0, .int .u8 0, .int .i16 0, .int .u8 0, .int .i16 0, .int .u8 0, .int .i16 0, .int .u8 0, .int .i16 0, .int .u8 0, .int .i16 0, .int .u8 0, .int .i16 0] 31)) := hHeld.alloc hHeld.size _
      have C10 : Hid (CBlk (x52.alloc (.cells #[.int .u8 0, .int .i16 0, .int .u8 0, .int .i16 0, .int .u8 0, .int .i16 0, .int .u8 0, .int .i16 0, .int .u8 0, .int .i16 0, .int .u8 0, .int .i16 0, .int .u8 0, .int .i16 0, .int .u8 0, .int .i16 0, .int .u8 0, .int .i16 0, .int .u8 0, .int .i16 0, .int .u8 0, .int .i16 0, .int .u8 0, .int .i16 0] 31)) N10 31 noB) := B10.out.alloc _
      have hNE0 : N10 < x52.heap.size := B10.out.lt
      clear B10
      obtain ⟨x55, hx⟩ : ∃ x, x52.alloc (.cells #[.int .u8 0, .int .i16 0, .int .u8 0, .int .i16 0, .int .u8 0, .int .i16 0, .int .u8 0, .int .i16 0, .int .u8 0, .int .i16 0, .int .u8 0, .int .i16 0, .int .u8 0, .int .i16 0, .int .u8 0, .int .i16 0, .int .u8 0, .int .i16 0, .int .u8 0, .int .i16 0, .int .u8 0, .int .i16 0, .int .u8 0, .int .i16 0] 31) = x := ⟨_, rfl⟩
      obtain ⟨N9, hN⟩ : ∃ N, x52.heap.size = N := ⟨_, rfl⟩
      rw [hx] at hH2 bn C10 ⊢
      rw [hN] at hn bn hNE0 ⊢
      have B10 := C10
      clear C10
      have hNE := Lib.hid hNE0
      clear hNE0
      have B9 := Lib.hid bn
      have H9 := Lib.hid hn
      clear bn hn hx hN hHeld
      refine hK.out _ _ hH2 (fun hHeld => ?_)
      clear hK K hH2
      try simp only [Act.put, zA, zB, zC, zD, zE, zF]
      refine wpAnyH_ready (rs := [4]) (by kernel_rfl) (by simp) ?_
      refine AllReadyH.cons rfl (fun K hK => ?_) AllReadyH.nil
      refine if_wanted rfl ?_
      go_simp
      refine (HS.out _).mono ?_
      rintro e x56 ⟨rfl, hb⟩
      have hH2 : Below W0.heap.size W0 x56 := hHeld.trans (hb.mono hHeld.size)
      have C10 : Hid (CBlk x56 N10 31 noB) := B10.out.below hb B10.out.lt
      clear B10
      have B10 := C10
      clear C10
      have C9 : Hid (CBlk x56 N9 31 noB) := B9.out.below hb B9.out.lt
      clear B9
      have B9 := C9
      clear C9
      clear hb hHeld
      dsimp only
      refine hK.out _ _ hH2 (fun hHeld => ?_)
      clear hK K hH2
      try simp only [Act.put, zA, zB, zC, zD, zE, zF]
      refine wpAnyH_take (i := 5) (v := .tuple #[.agg (ccells X).toArray, .agg (ccells Y).toArray, .int .i64 c]) rfl (by kernel_rfl) (by kernel_rfl) (by kernel_rfl) (fun _ _ _ ⟨_, _, h, _⟩ => nomatch h) (Or.inl ⟨by rfl, fun w _ => by go_simp⟩) (by assumption) ?_
      try simp only [Act.put, zA, zB, zC, zD, zE, zF]
      refine wpAnyH_take (i := 6) (v := .agg (ccells X).toArray) rfl (by kernel_rfl) (by kernel_rfl) (by kernel_rfl) (fun _ _ _ ⟨_, _, h, _⟩ => nomatch h) (Or.inl ⟨by rfl, fun w _ => by go_simp⟩) (by assumption) ?_
      try simp only [Act.put, zA, zB, zC, zD, zE, zF]
      refine wpAnyH_take (i := 7) (v := .agg (ccells Y).toArray) rfl (by kernel_rfl) (by kernel_rfl) (by kernel_rfl) (fun _ _ _ ⟨_, _, h, _⟩ => nomatch h) (Or.inl ⟨by rfl, fun w _ => by go_simp⟩) (by assumption) ?_
      try simp only [Act.put, zA, zB, zC, zD, zE, zF]
      refine wpAnyH_take (i := 8) (v := .int .i64 c) rfl (by kernel_rfl) (by kernel_rfl) (by kernel_rfl) (fun _ _ _ ⟨_, _, h, _⟩ => nomatch h) (Or.inl ⟨by rfl, fun w _ => by go_simp⟩) (by assumption) ?_
      try simp only [Act.put, zA, zB, zC, zD, zE, zF]
      have HNE : Hid (N9 ≠ N10) := by have := hNE.out; show N9 ≠ N10; omega
      refine wpAnyH_ready (rs := [11]) (by kernel_rfl) (by simp) ?_
      refine AllReadyH.cons rfl (fun K hK => ?_) AllReadyH.nil
      refine if_wanted rfl (wp_store_row 31 (.tmp 5) (.tmp 17) rfl N9 (ccells X).toArray rfl rfl 31 _ B9.out (size_of_crate Tryd.sizeCr _ HX.out.1) (by show (ccells noB).toArray.size = _; rw [ccells_size _ HX.out.1]; rfl) (ccells_one _) ?_)
      refine hK.out _ _ (Below.setRow hHeld _ _ H9.out) (fun hHeld => ?_)
      clear hK K
      try simp only [Act.put, zA, zB, zC]
      refine wpAnyH_ready (rs := [12]) (by kernel_rfl) (by simp) ?_
      refine AllReadyH.cons rfl (fun K hK => ?_) AllReadyH.nil
      refine if_wanted rfl (wp_store_row 31 (.tmp 6) (.tmp 18) rfl N10 (ccells Y).toArray rfl rfl 31 _ (B10.out.rowOff (fun e => HNE.out e.symm) _) (size_of_crate Tryd.sizeCr _ HY.out.1) (by show (ccells noB).toArray.size = _; rw [ccells_size _ HY.out.1]; rfl) (ccells_one _) ?_)
      refine hK.out _ _ (Below.setRow hHeld _ _ H10.out) (fun hHeld => ?_)
      clear hK K
      try simp only [Act.put, zA, zB, zC]
      refine wpAnyH_ready (rs := [13]) (by kernel_rfl) (by simp) ?_
      refine AllReadyH.cons rfl (fun K hK => ?_) AllReadyH.nil
      refine if_wanted rfl ?_
      refine wp_assign0 rfl rfl ?_
      refine hK.out _ _ hHeld (fun hHeld => ?_)
      clear hK K
      try simp only [Act.put, zA, zB, zC, zD, zE, zF]
      exact wpAnyH_done (by kernel_rfl) ⟨N9, N10, rfl, rfl, (CBlk.setRow (Y := X) B9.out).rowOff HNE.out _, CBlk.setRow (Y := Y) (B10.out.rowOff (fun e => HNE.out e.symm) _), hHeld⟩ _
     refine AllReadyH.cons rfl (fun K hK => ?_) AllReadyH.nil
     refine if_wanted rfl ?_
     go_simp
     have bn : CBlk (x51.alloc (.cells #[.int .u8 0, .int .i16 0, .int .u8 0, .int .i16 0, .int .u8 0, .int .i16 0, .int .u8 0, .int .i16 0, .int .u8 0, .int .i16 0, .int .u8 0, .int .i16 0, .int .u8 0, .int .i16 0, .int .u8 0, .int .i16 0, .int .u8 0, .int .i16 0, .int .u8 0, .int .i16 0, .int .u8 0, .int .i16 0, .int .u8 0, .int .i16 0] 31)) x51.heap.size 31 noB := CBlk.new' rfl rfl
     have hn : W0.heap.size ≤ x51.heap.size := hHeld.size
     have hH2 : Below W0.heap.size W0 (x51.alloc (.cells #[.int .u8 0, .int .i16 0, .int .u8 0, .int .i16 0, .int .u8 0, .int .i16 0, .int .u8 0, .int .i16 0, .int .u8 0, .int .i16 0, .int .u8 0, .int .i16 0, .int .u8 0, .int .i16 0, .int .u8 0, .int .i16 0, .int .u8 0, .int .i16 0, .int .u8 0, .int .i16 0, .int .u8 0, .int .i16 0, .int .u8 0, .int .i16 0] 31)) := hHeld.alloc hHeld.size _
     have C10 : Hid (CBlk (x51.alloc (.cells #[.int .u8 0, .int .i16 0, .int .u8 0, .int .i16 0, .int .u8 0, .int .i16 0, .int .u8 0, .int .i16 0, .int .u8 0, .int .i16 0, .int .u8 0, .int .i16 0, .int .u8 0, .int .i16 0, .int .u8 0, .int .i16 0, .int .u8 0, .int .i16 0, .int .u8 0, .int .i16 0, .int .u8 0, .int .i16 0, .int .u8 0, .int .i16 0] 31)) N10 31 noB) := B10.out.alloc _
     have hNE0 : N10 < x51.heap.size := B10.out.lt
     clear B10
     obtain ⟨x57, hx⟩ : ∃ x, x51.alloc (.cells #[.int .u8 0, .int .i16 0, .int .u8 0, .int .i16 0, .int .u8 0, .int .i16 0, .int .u8 0, .int .i16 0, .int .u8 0, .int .i16 0, .int .u8 0, .int .i16 0, .int .u8 0, .int .i16 0, .int .u8 0, .int .i16 0, .int .u8 0, .int .i16 0, .int .u8 0, .int .i16 0, .int .u8 0, .int .i16 0, .int .u8 0, .int .i16 0] 31) = x := ⟨_, rfl⟩
     obtain ⟨N9, hN⟩ : ∃ N, x51.heap.size = N := ⟨_, rfl⟩
     rw [hx] at hH2 bn C10 ⊢
     rw [hN] at hn bn hNE0 ⊢
     have B10 := C10
     clear C10
     have hNE := Lib.hid hNE0
     clear hNE0
     have B9 := Lib.hid bn
     have H9 := Lib.hid hn
     clear bn hn hx hN hHeld
     refine hK.out _ _ hH2 (fun hHeld => ?_)
     clear hK K hH2
     try simp only [Act.put, zA, zB, zC, zD, zE, zF]
     refine wpAnyH_ready (rs := [3]) (by kernel_rfl) (by simp) ?_
     refine AllReadyH.cons rfl (fun K hK => ?_) AllReadyH.nil
     refine if_wanted rfl ?_
     go_simp
     refine (toCrate_any b HB.out.1 _).mono ?_
     rintro e x58 ⟨rfl, hb⟩
     have hH2 : Below W0.heap.size W0 x58 := hHeld.trans (hb.mono hHeld.size)
     have C10 : Hid (CBlk x58 N10 31 noB) := B10.out.below hb B10.out.lt
     clear B10
     have B10 := C10
     clear C10
     have C9 : Hid (CBlk x58 N9 31 noB) := B9.out.below hb B9.out.lt
     clear B9
     have B9 := C9
     clear C9
     clear hb hHeld
     dsimp only
     refine hK.out _ _ hH2 (fun hHeld => ?_)
     clear hK K hH2
     try simp only [Act.put, zA, zB, zC, zD, zE, zF]
     refine wpAnyH_ready (rs := [4]) (by kernel_rfl) (by simp) ?_
     refine AllReadyH.cons rfl (fun K hK => ?_) AllReadyH.nil
     refine if_wanted rfl ?_
     go_simp
     refine (HS.out _).mono ?_
     rintro e x59 ⟨rfl, hb⟩
     have hH2 : Below W0.heap.size W0 x59 := hHeld.trans (hb.mono hHeld.size)
     have C10 : Hid (CBlk x59 N10 31 noB) := B10.out.below hb B10.out.lt
     clear B10
     have B10 := C10
     clear C10
     have C9 : Hid (CBlk x59 N9 31 noB) := B9.out.below hb B9.out.lt
     clear B9
     have B9 := C9
     clear C9
     clear hb hHeld
     dsimp only
     refine hK.out _ _ hH2 (fun hHeld => ?_)
     clear hK K hH2
     try simp only [Act.put, zA, zB, zC, zD, zE, zF]
     refine wpAnyH_take (i := 5) (v := .tuple #[.agg (ccells X).toArray, .agg (ccells Y).toArray, .int .i64 c]) rfl (by kernel_rfl) (by kernel_rfl) (by kernel_rfl) (fun _ _ _ ⟨_, _, h, _⟩ => nomatch h) (Or.inl ⟨by rfl, fun w _ => by go_simp⟩) (by assumption) ?_
     try simp only [Act.put, zA, zB, zC, zD, zE, zF]
     refine wpAnyH_take (i := 6) (v := .agg (ccells X).toArray) rfl (by kernel_rfl) (by kernel_rfl) (by kernel_rfl) (fun _ _ _ ⟨_, _, h, _⟩ => nomatch h) (Or.inl ⟨by rfl, fun w _ => by go_simp⟩) (by assumption) ?_
     try simp only [Act.put, zA, zB, zC, zD, zE, zF]
     refine wpAnyH_take (i := 7) (v := .agg (ccells Y).toArray) rfl (by kernel_rfl) (by kernel_rfl) (by kernel_rfl) (fun _ _ _ ⟨_, _, h, _⟩ => nomatch h) (Or.inl ⟨by rfl, fun w _ => by go_simp⟩) (by assumption) ?_
     try simp only [Act.put, zA, zB, zC, zD, zE, zF]
     refine wpAnyH_take (i := 8) (v := .int .i64 c) rfl (by kernel_rfl) (by kernel_rfl) (by kernel_rfl) (fun _ _ _ ⟨_, _, h, _⟩ => nomatch h) (Or.inl ⟨by rfl, fun w _ => by go_simp⟩) (by assumption) ?_
     try simp only [Act.put, zA, zB, zC, zD, zE, zF]
     have HNE : Hid (N9 ≠ N10) := by have := hNE.out; show N9 ≠ N10; omega
     refine wpAnyH_ready (rs := [11]) (by kernel_rfl) (by simp) ?_
     refine AllReadyH.cons rfl (fun K hK => ?_) AllReadyH.nil
     refine if_wanted rfl (wp_store_row 31 (.tmp 5) (.tmp 17) rfl N9 (ccells X).toArray rfl rfl 31 _ B9.out (size_of_crate Tryd.sizeCr _ HX.out.1) (by show (ccells noB).toArray.size = _; rw [ccells_size _ HX.out.1]; rfl) (ccells_one _) ?_)
     refine hK.out _ _ (Below.setRow hHeld _ _ H9.out) (fun hHeld => ?_)
     clear hK K
     try simp only [Act.put, zA, zB, zC]
     refine wpAnyH_ready (rs := [12]) (by kernel_rfl) (by simp) ?_
     refine AllReadyH.cons rfl (fun K hK => ?_) AllReadyH.nil
     refine if_wanted rfl (wp_store_row 31 (.tmp 6) (.tmp 18) rfl N10 (ccells Y).toArray rfl rfl 31 _ (B10.out.rowOff (fun e => HNE.out e.symm) _) (size_of_crate Tryd.sizeCr _ HY.out.1) (by show (ccells noB).toArray.size = _; rw [ccells_size _ HY.out.1]; rfl) (ccells_one _) ?_)
     refine hK.out _ _ (Below.setRow hHeld _ _ H10.out) (fun hHeld => ?_)
     clear hK K
     try simp only [Act.put, zA, zB, zC]
     refine wpAnyH_ready (rs := [13]) (by kernel_rfl) (by simp) ?_
     refine AllReadyH.cons rfl (fun K hK => ?_) AllReadyH.nil
     refine if_wanted rfl ?_
     refine wp_assign0 rfl rfl ?_
     refine hK.out _ _ hHeld (fun hHeld => ?_)
     clear hK K
     try simp only [Act.put, zA, zB, zC, zD, zE, zF]
     exact wpAnyH_done (by kernel_rfl) ⟨N9, N10, rfl, rfl, (CBlk.setRow (Y := X) B9.out).rowOff HNE.out _, CBlk.setRow (Y := Y) (B10.out.rowOff (fun e => HNE.out e.symm) _), hHeld⟩ _
    refine AllReadyH.cons rfl (fun K hK => ?_) AllReadyH.nil
    refine if_wanted rfl ?_
    go_simp
    have bn : CBlk (x50.alloc (.cells #[.int .u8 0, .int .i16 0, .int .u8 0, .int .i16 0, .int .u8 0, .int .i16 0, .int .u8 0, .int .i16 0, .int .u8 0, .int .i16 0, .int .u8 0, .int .i16 0, .int .u8 0, .int .i16 0, .int .u8 0, .int .i16 0, .int .u8 0, .int .i16 0, .int .u8 0, .int .i16 0, .int .u8 0, .int .i16 0, .int .u8 0, .int .i16 0] 31)) x50.heap.size 31 noB := CBlk.new' rfl rfl
    have hn : W0.heap.size ≤ x50.heap.size := hHeld.size
    have hH2 : Below W0.heap.size W0 (x50.alloc (.cells #[.int .u8 0, .int .i16 0, .int .u8 0, .int .i16 0, .int .u8 0, .int .i16 0, .int .u8 0, .int .i16 0, .int .u8 0, .int .i16 0, .int .u8 0, .int .i16 0, .int .u8 0, .int .i16 0, .int .u8 0, .int .i16 0, .int .u8 0, .int .i16 0, .int .u8 0, .int .i16 0, .int .u8 0, .int .i16 0, .int .u8 0, .int .i16 0] 31)) := hHeld.alloc hHeld.size _
    have C10 : Hid (CBlk (x50.alloc (.cells #[.int .u8 0, .int .i16 0, .int .u8 0, .int .i16 0, .int .u8 0, .int .i16 0, .int .u8 0, .int .i16 0, .int .u8 0, .int .i16 0, .int .u8 0, .int .i16 0, .int .u8 0, .int .i16 0, .int .u8 0, .int .i16 0, .int .u8 0, .int .i16 0, .int .u8 0, .int .i16 0, .int .u8 0, .int .i16 0, .int .u8 0, .int .i16 0] 31)) N10 31 noB) := B10.out.alloc _
    have hNE0 : N10 < x50.heap.size := B10.out.lt
    clear B10
    obtain ⟨x60, hx⟩ : ∃ x, x50.alloc (.cells #[.int .u8 0, .int .i16 0, .int .u8 0, .int .i16 0, .int .u8 0, .int .i16 0, .int .u8 0, .int .i16 0, .int .u8 0, .int .i16 0, .int .u8 0, .int .i16 0, .int .u8 0, .int .i16 0, .int .u8 0, .int .i16 0, .int .u8 0, .int .i16 0, .int .u8 0, .int .i16 0, .int .u8 0, .int .i16 0, .int .u8 0, .int .i16 0] 31) = x := ⟨_, rfl⟩
    obtain ⟨N9, hN⟩ : ∃ N, x50.heap.size = N := ⟨_, rfl⟩
    rw [hx] at hH2 bn C10 ⊢
    rw [hN] at hn bn hNE0 ⊢
    have B10 := C10
    clear C10
    have hNE := Lib.hid hNE0
    clear hNE0
    have B9 := Lib.hid bn
    have H9 := Lib.hid hn
    clear bn hn hx hN hHeld
    refine hK.out _ _ hH2 (fun hHeld => ?_)
    clear hK K hH2
    try simp only [Act.put, zA, zB, zC, zD, zE, zF]
    refine wpAnyH_ready (rs := [1]) (by kernel_rfl) (by simp) ?_
    refine AllReadyH.cons rfl (fun K hK => ?_) AllReadyH.nil
    refine if_wanted rfl ?_
    go_simp
    refine (toCrate_any a HA.out.1 _).mono ?_
    rintro e x61 ⟨rfl, hb⟩
    have hH2 : Below W0.heap.size W0 x61 := hHeld.trans (hb.mono hHeld.size)
    have C10 : Hid (CBlk x61 N10 31 noB) := B10.out.below hb B10.out.lt
    clear B10
    have B10 := C10
    clear C10
    have C9 : Hid (CBlk x61 N9 31 noB) := B9.out.below hb B9.out.lt
    clear B9
    have B9 := C9
    clear C9
    clear hb hHeld
    dsimp only
    refine hK.out _ _ hH2 (fun hHeld => ?_)
    clear hK K hH2
    try simp only [Act.put, zA, zB, zC, zD, zE, zF]
    refine wpAnyH_ready (rs := [3]) (by kernel_rfl) (by simp) ?_
    refine AllReadyH.cons rfl (fun K hK => ?_) AllReadyH.nil
    refine if_wanted rfl ?_
    go_simp
    refine (toCrate_any b HB.out.1 _).mono ?_
    rintro e x62 ⟨rfl, hb⟩
    have hH2 : Below W0.heap.size W0 x62 := hHeld.trans (hb.mono hHeld.size)
    have C10 : Hid (CBlk x62 N10 31 noB) := B10.out.below hb B10.out.lt
    clear B10
    have B10 := C10
    clear C10
    have C9 : Hid (CBlk x62 N9 31 noB) := B9.out.below hb B9.out.lt
    clear B9
    have B9 := C9
    clear C9
    clear hb hHeld
    dsimp only
    refine hK.out _ _ hH2 (fun hHeld => ?_)
    clear hK K hH2
    try simp only [Act.put, zA, zB, zC, zD, zE, zF]
    refine wpAnyH_ready (rs := [4]) (by kernel_rfl) (by simp) ?_
    refine AllReadyH.cons rfl (fun K hK => ?_) AllReadyH.nil
    refine if_wanted rfl ?_
    go_simp
    refine (HS.out _).mono ?_
    rintro e x63 ⟨rfl, hb⟩
    have hH2 : Below W0.heap.size W0 x63 := hHeld.trans (hb.mono hHeld.size)
    have C10 : Hid (CBlk x63 N10 31 noB) := B10.out.below hb B10.out.lt
    clear B10
    have B10 := C10
    clear C10
    have C9 : Hid (CBlk x63 N9 31 noB) := B9.out.below hb B9.out.lt
    clear B9
    have B9 := C9
    clear C9
    clear hb hHeld
    dsimp only
    refine hK.out _ _ hH2 (fun hHeld => ?_)
    clear hK K hH2
    try simp only [Act.put, zA, zB, zC, zD, zE, zF]
    refine wpAnyH_take (i := 5) (v := .tuple #[.agg (ccells X).toArray, .agg (ccells Y).toArray, .int .i64 c]) rfl (by kernel_rfl) (by kernel_rfl) (by kernel_rfl) (fun _ _ _ ⟨_, _, h, _⟩ => nomatch h) (Or.inl ⟨by rfl, fun w _ => by go_simp⟩) (by assumption) ?_
    try simp only [Act.put, zA, zB, zC, zD, zE, zF]
    refine wpAnyH_take (i := 6) (v := .agg (ccells X).toArray) rfl (by kernel_rfl) (by kernel_rfl) (by kernel_rfl) (fun _ _ _ ⟨_, _, h, _⟩ => nomatch h) (Or.inl ⟨by rfl, fun w _ => by go_simp⟩) (by assumption) ?_
    try simp only [Act.put, zA, zB, zC, zD, zE, zF]
    refine wpAnyH_take (i := 7) (v := .agg (ccells Y).toArray) rfl (by kernel_rfl) (by kernel_rfl) (by kernel_rfl) (fun _ _ _ ⟨_, _, h, _⟩ => nomatch h) (Or.inl ⟨by rfl, fun w _ => by go_simp⟩) (by assumption) ?_
    try simp only [Act.put, zA, zB, zC, zD, zE, zF]
    refine wpAnyH_take (i := 8) (v := .int .i64 c) rfl (by kernel_rfl) (by kernel_rfl) (by kernel_rfl) (fun _ _ _ ⟨_, _, h, _⟩ => nomatch h) (Or.inl ⟨by rfl, fun w _ => by go_simp⟩) (by assumption) ?_
    try simp only [Act.put, zA, zB, zC, zD, zE, zF]
    have HNE : Hid (N9 ≠ N10) := by have := hNE.out; show N9 ≠ N10; omega
    refine wpAnyH_ready (rs := [11]) (by kernel_rfl) (by simp) ?_
    refine AllReadyH.cons rfl (fun K hK => ?_) AllReadyH.nil
    refine if_wanted rfl (wp_store_row 31 (.tmp 5) (.tmp 17) rfl N9 (ccells X).toArray rfl rfl 31 _ B9.out (size_of_crate Tryd.sizeCr _ HX.out.1) (by show (ccells noB).toArray.size = _; rw [ccells_size _ HX.out.1]; rfl) (ccells_one _) ?_)
    refine hK.out _ _ (Below.setRow hHeld _ _ H9.out) (fun hHeld => ?_)
    clear hK K
    try simp only [Act.put, zA, zB, zC]
    refine wpAnyH_ready (rs := [12]) (by kernel_rfl) (by simp) ?_
    refine AllReadyH.cons rfl (fun K hK => ?_) AllReadyH.nil
    refine if_wanted rfl (wp_store_row 31 (.tmp 6) (.tmp 18) rfl N10 (ccells Y).toArray rfl rfl 31 _ (B10.out.rowOff (fun e => HNE.out e.symm) _) (size_of_crate Tryd.sizeCr _ HY.out.1) (by show (ccells noB).toArray.size = _; rw [ccells_size _ HY.out.1]; rfl) (ccells_one _) ?_)
    refine hK.out _ _ (Below.setRow hHeld _ _ H10.out) (fun hHeld => ?_)
    clear hK K
    try simp only [Act.put, zA, zB, zC]
    refine wpAnyH_ready (rs := [13]) (by kernel_rfl) (by simp) ?_
    refine AllReadyH.cons rfl (fun K hK => ?_) AllReadyH.nil
    refine if_wanted rfl ?_
    refine wp_assign0 rfl rfl ?_
    refine hK.out _ _ hHeld (fun hHeld => ?_)
    clear hK K
    try simp only [Act.put, zA, zB, zC, zD, zE, zF]
    exact wpAnyH_done (by kernel_rfl) ⟨N9, N10, rfl, rfl, (CBlk.setRow (Y := X) B9.out).rowOff HNE.out _, CBlk.setRow (Y := Y) (B10.out.rowOff (fun e => HNE.out e.symm) _), hHeld⟩ _
  rintro e a' w1 ⟨B1, B2, rfl, rfl, hC, hD, hb⟩
  have C1 := Lib.hid hC
  have C2 := Lib.hid hD
  have I1 : Hid (CBlk w1 w.heap.size 25 a) := G1.out.below hb G1.out.lt
  have I2 : Hid (CBlk w1 (w.heap.size + 1) 25 b) := G2.out.below hb G2.out.lt
  have I3 : Hid (Below w.heap.size w w1) := G3.out.trans (hb.mono G3.out.size)
  clear hC hD hb
  go_wp2_with fail
  refine Code.wp_mono (Q := fun e a' w' => ∃ B3 B4, e = .normal ∧ a' = { tmps := #[.agg (ccells a).toArray, .agg (ccells b).toArray, .pointer (some ⟨w.heap.size, 0, none⟩), .pointer (some ⟨w.heap.size + 1, 0, none⟩), .bool false, .pointer (some ⟨B1, 0, none⟩), .pointer (some ⟨B2, 0, none⟩), .int .i64 c, .pointer (some ⟨B3, 0, none⟩), .pointer (some ⟨B4, 0, none⟩), .int .i64 c, .tuple #[.agg (ccells X).toArray, .agg (ccells Y).toArray, .int .i64 c], .agg (ccells a).toArray, .agg (ccells a).toArray, .agg (ccells b).toArray, .agg (ccells b).toArray, .tuple #[.agg (ccells X).toArray, .agg (ccells Y).toArray, .int .i64 c], .agg (ccells X).toArray, .agg (ccells Y).toArray, .int .i64 c, .tuple #[.agg (ccells X).toArray, .agg (ccells Y).toArray, .int .i64 c], .agg (ccells a).toArray, .agg (ccells a).toArray, .agg (ccells b).toArray, .agg (ccells b).toArray, .tuple #[.agg (ccells X).toArray, .agg (ccells Y).toArray, .int .i64 c], .agg (ccells X).toArray, .agg (ccells Y).toArray, .int .i64 c, undef, undef, undef, undef, undef, undef, undef, undef, undef, undef, undef, undef, undef, undef, undef], defers := [] } ∧ CBlk w' B3 31 X ∧ CBlk w' B4 31 Y ∧ Below w1.heap.size w1 w') ?_ ?_
  rotate_left
  · skip
    refine wp_region_held_drew (S := fun w' => Below w1.heap.size w1 w') (by kernel_rfl) (Below.refl _ _).drew (fun hHeld => ?_)
    refine' wpAnyH_take (i := 0) (v := _) rfl (by kernel_rfl) (by kernel_rfl) (by kernel_rfl) (fun _ _ _ ⟨_, _, h, _⟩ => nomatch h) (yieldsIf_load_mid (by rfl) 25 (.tmp 2) rfl w.heap.size 0 rfl (ccells a) _ (fun w h => CBlk.range (I1.out.below h I1.out.lt)) Tryd.underlying25 rfl (size_of_crate Tryd.sizeLc _ HA.out.1)) (by assumption) ?_
    try simp only [Act.put, zA, zB, zD, zE, zF]
    refine' wpAnyH_take (i := 2) (v := _) rfl (by kernel_rfl) (by kernel_rfl) (by kernel_rfl) (fun _ _ _ ⟨_, _, h, _⟩ => nomatch h) (yieldsIf_load_mid (by rfl) 25 (.tmp 3) rfl (w.heap.size + 1) 0 rfl (ccells b) _ (fun w h => CBlk.range (I2.out.below h I2.out.lt)) Tryd.underlying25 rfl (size_of_crate Tryd.sizeLc _ HB.out.1)) (by assumption) ?_
    try simp only [Act.put, zA, zB, zC, zD, zE, zF]
    obtain ⟨D0, hD0⟩ : ∃ D0, w1.drew = D0 := ⟨_, rfl⟩
    rw [hD0] at hHeld ⊢
    clear hD0
    refine wpAnyH_ready (rs := [1, 9, 10]) (by kernel_rfl) (by simp) ?_
    refine AllReadyH.cons rfl (fun K hK => ?_) ?_
    ·skip
     refine if_wanted rfl ?_
     go_simp
     refine (toCrate_any a HA.out.1 _).mono ?_
     rintro e x1 ⟨rfl, hb⟩
     have hH2 : Below w1.heap.size w1 x1 := hHeld.trans (hb.mono hHeld.size)
     clear hb hHeld
     dsimp only
     refine hK.out _ _ hH2 (fun hHeld => ?_)
     clear hK K hH2
     try simp only [Act.put, zA, zB, zC, zD, zE, zF]
     refine wpAnyH_ready (rs := [3, 9, 10]) (by kernel_rfl) (by simp) ?_
     refine AllReadyH.cons rfl (fun K hK => ?_) ?_
     ·skip
      refine if_wanted rfl ?_
      go_simp
      refine (toCrate_any b HB.out.1 _).mono ?_
      rintro e x2 ⟨rfl, hb⟩
      have hH2 : Below w1.heap.size w1 x2 := hHeld.trans (hb.mono hHeld.size)
      clear hb hHeld
      dsimp only
      refine hK.out _ _ hH2 (fun hHeld => ?_)
      clear hK K hH2
      try simp only [Act.put, zA, zB, zC, zD, zE, zF]
      refine wpAnyH_ready (rs := [4, 9, 10]) (by kernel_rfl) (by simp) ?_
      refine AllReadyH.cons rfl (fun K hK => ?_) ?_
      ·skip
       refine if_wanted rfl ?_
       go_simp
       refine (HI.out ad _ (HE.out.below (I3.out.trans (hHeld.mono I3.out.size)) (Nat.le_refl _))).mono ?_
       rintro e x3 ⟨rfl, hb⟩
       have hH2 : Below w1.heap.size w1 x3 := hHeld.trans (hb.mono hHeld.size)
       clear hb hHeld
       dsimp only
       refine hK.out _ _ hH2 (fun hHeld => ?_)
       clear hK K hH2
       try simp only [Act.put, zA, zB, zC, zD, zE, zF]
       refine wpAnyH_take (i := 5) (v := .tuple #[.agg (ccells X).toArray, .agg (ccells Y).toArray, .int .i64 c]) rfl (by kernel_rfl) (by kernel_rfl) (by kernel_rfl) (fun _ _ _ ⟨_, _, h, _⟩ => nomatch h) (Or.inl ⟨by rfl, fun w _ => by go_simp⟩) (by assumption) ?_
       try simp only [Act.put, zA, zB, zC, zD, zE, zF]
       refine wpAnyH_take (i := 6) (v := .agg (ccells X).toArray) rfl (by kernel_rfl) (by kernel_rfl) (by kernel_rfl) (fun _ _ _ ⟨_, _, h, _⟩ => nomatch h) (Or.inl ⟨by rfl, fun w _ => by go_simp⟩) (by assumption) ?_
       try simp only [Act.put, zA, zB, zC, zD, zE, zF]
       refine wpAnyH_take (i := 7) (v := .agg (ccells Y).toArray) rfl (by kernel_rfl) (by kernel_rfl) (by kernel_rfl) (fun _ _ _ ⟨_, _, h, _⟩ => nomatch h) (Or.inl ⟨by rfl, fun w _ => by go_simp⟩) (by assumption) ?_
       try simp only [Act.put, zA, zB, zC, zD, zE, zF]
       refine wpAnyH_take (i := 8) (v := .int .i64 c) rfl (by kernel_rfl) (by kernel_rfl) (by kernel_rfl) (fun _ _ _ ⟨_, _, h, _⟩ => nomatch h) (Or.inl ⟨by rfl, fun w _ => by go_simp⟩) (by assumption) ?_
       try simp only [Act.put, zA, zB, zC, zD, zE, zF]
       refine wpAnyH_ready (rs := [9, 10]) (by kernel_rfl) (by simp) ?_
       refine AllReadyH.cons rfl (fun K hK => ?_) ?_
       ·skip
        refine if_wanted rfl ?_
        go_simp
        have bn : CBlk (x3.alloc (.cells #[.int .u8 0, .int .i16 0, .int .u8 0, .int .i16 0, .int .u8 0, .int .i16 0, .int .u8 0, .int .i16 0, .int .u8 0, .int .i16 0, .int .u8 0, .int .i16 0, .int .u8 0, .int .i16 0, .int .u8 0, .int .i16 0, .int .u8 0, .int .i16 0, .int .u8 0, .int .i16 0, .int .u8 0, .int .i16 0, .int .u8 0, .int .i16 0] 31)) x3.heap.size 31 noB := CBlk.new' rfl rfl
        have hn : w1.heap.size ≤ x3.heap.size := hHeld.size
        have hH2 : Below w1.heap.size w1 (x3.alloc (.cells #[.int .u8 0, .int .i16 0, .int .u8 0, .int .i16 0, .int .u8 0, .int .i16 0, .int .u8 0, .int .i16 0, .int .u8 0, .int .i16 0, .int .u8 0, .int .i16 0, .int .u8 0, .int .i16 0, .int .u8 0, .int .i16 0, .int .u8 0, .int .i16 0, .int .u8 0, .int .i16 0, .int .u8 0, .int .i16 0, .int .u8 0, .int .i16 0] 31)) := hHeld.alloc hHeld.size _
        obtain ⟨x4, hx⟩ : ∃ x, x3.alloc (.cells #[.int .u8 0, .int .i16 0, .int .u8 0, .int .i16 0, .int .u8 0, .int .i16 0, .int .u8 0, .int .i16 0, .int .u8 0, .int .i16 0, .int .u8 0, .int .i16 0, .int .u8 0, .int .i16 0, .int .u8 0, .int .i16 0, .int .u8 0, .int .i16 0, .int .u8 0, .int .i16 0, .int .u8 0, .int .i16 0, .int .u8 0, .int .i16 0] 31) = x := ⟨_, rfl⟩
        obtain ⟨N9, hN⟩ : ∃ N, x3.heap.size = N := ⟨_, rfl⟩
        rw [hx] at hH2 bn ⊢
        rw [hN] at hn bn ⊢
        have B9 := Lib.hid bn
        have H9 := Lib.hid hn
        clear bn hn hx hN hHeld
        refine hK.out _ _ hH2 (fun hHeld => ?_)
        clear hK K hH2
        try simp only [Act.put, zA, zB, zC, zD, zE, zF]
        refine wpAnyH_ready (rs := [10]) (by kernel_rfl) (by simp) ?_
        refine AllReadyH.cons rfl (fun K hK => ?_) AllReadyH.nil
        refine if_wanted rfl ?_
        go_simp
        have bn : CBlk (x4.alloc (.cells #[.int .u8 0, .int .i16 0, .int .u8 0, .int .i16 0, .int .u8 0, .int .i16 0, .int .u8 0, .int .i16 0, .int .u8 0, .int .i16 0, .int .u8 0, .int .i16 0, .int .u8 0, .int .i16 0, .int .u8 0, .int .i16 0, .int .u8 0, .int .i16 0, .int .u8 0, .int .i16 0, .int .u8 0, .int .i16 0, .int .u8 0, .int .i16 0] 31)) x4.heap.size 31 noB := CBlk.new' rfl rfl
        have hn : w1.heap.size ≤ x4.heap.size := hHeld.size
        have hH2 : Below w1.heap.size w1 (x4.alloc (.cells #[.int .u8 0, .int .i16 0, .int .u8 0, .int .i16 0, .int .u8 0, .int .i16 0, .int .u8 0, .int .i16 0, .int .u8 0, .int .i16 0, .int .u8 0, .int .i16 0, .int .u8 0, .int .i16 0, .int .u8 0, .int .i16 0, .int .u8 0, .int .i16 0, .int .u8 0, .int .i16 0, .int .u8 0, .int .i16 0, .int .u8 0, .int .i16 0] 31)) := hHeld.alloc hHeld.size _
        have C9 : Hid (CBlk (x4.alloc (.cells #[.int .u8 0, .int .i16 0, .int .u8 0, .int .i16 0, .int .u8 0, .int .i16 0, .int .u8 0, .int .i16 0, .int .u8 0, .int .i16 0, .int .u8 0, .int .i16 0, .int .u8 0, .int .i16 0, .int .u8 0, .int .i16 0, .int .u8 0, .int .i16 0, .int .u8 0, .int .i16 0, .int .u8 0, .int .i16 0, .int .u8 0, .int .i16 0] 31)) N9 31 noB) := B9.out.alloc _
        have hNE0 : N9 < x4.heap.size := B9.out.lt
        clear B9
        obtain ⟨x5, hx⟩ : ∃ x, x4.alloc (.cells #[.int .u8 0, .int .i16 0, .int .u8 0, .int .i16 0, .int .u8 0, .int .i16 0, .int .u8 0, .int .i16 0, .int .u8 0, .int .i16 0, .int .u8 0, .int .i16 0, .int .u8 0, .int .i16 0, .int .u8 0, .int .i16 0, .int .u8 0, .int .i16 0, .int .u8 0, .int .i16 0, .int .u8 0, .int .i16 0, .int .u8 0, .int .i16 0] 31) = x := ⟨_, rfl⟩
        obtain ⟨N10, hN⟩ : ∃ N, x4.heap.size = N := ⟨_, rfl⟩
        rw [hx] at hH2 bn C9 ⊢
        rw [hN] at hn bn hNE0 ⊢
        have B9 := C9
        clear C9
        have hNE := Lib.hid hNE0
        clear hNE0
        have B10 := Lib.hid bn
        have H10 := Lib.hid hn
        clear bn hn hx hN hHeld
        refine hK.out _ _ hH2 (fun hHeld => ?_)
        clear hK K hH2
        try simp only [Act.put, zA, zB, zC, zD, zE, zF]
        have HNE : Hid (N9 ≠ N10) := by have := hNE.out; show N9 ≠ N10; omega
        refine wpAnyH_ready (rs := [11]) (by kernel_rfl) (by simp) ?_
        refine AllReadyH.cons rfl (fun K hK => ?_) AllReadyH.nil
        refine if_wanted rfl (wp_store_row 31 (.tmp 8) (.tmp 26) rfl N9 (ccells X).toArray rfl rfl 31 _ B9.out (size_of_crate Tryd.sizeCr _ HX.out.1) (by show (ccells noB).toArray.size = _; rw [ccells_size _ HX.out.1]; rfl) (ccells_one _) ?_)
        refine hK.out _ _ (Below.setRow hHeld _ _ H9.out) (fun hHeld => ?_)
        clear hK K
        try simp only [Act.put, zA, zB, zC]
        refine wpAnyH_ready (rs := [12]) (by kernel_rfl) (by simp) ?_
        refine AllReadyH.cons rfl (fun K hK => ?_) AllReadyH.nil
        refine if_wanted rfl (wp_store_row 31 (.tmp 9) (.tmp 27) rfl N10 (ccells Y).toArray rfl rfl 31 _ (B10.out.rowOff (fun e => HNE.out e.symm) _) (size_of_crate Tryd.sizeCr _ HY.out.1) (by show (ccells noB).toArray.size = _; rw [ccells_size _ HY.out.1]; rfl) (ccells_one _) ?_)
        refine hK.out _ _ (Below.setRow hHeld _ _ H10.out) (fun hHeld => ?_)
        clear hK K
        try simp only [Act.put, zA, zB, zC]
        refine wpAnyH_ready (rs := [13]) (by kernel_rfl) (by simp) ?_
        refine AllReadyH.cons rfl (fun K hK => ?_) AllReadyH.nil
        refine if_wanted rfl ?_
        refine wp_assign0 rfl rfl ?_
        refine hK.out _ _ hHeld (fun hHeld => ?_)
        clear hK K
        try simp only [Act.put, zA, zB, zC, zD, zE, zF]
        exact wpAnyH_done (by kernel_rfl) ⟨N9, N10, rfl, rfl, (CBlk.setRow (Y := X) B9.out).rowOff HNE.out _, CBlk.setRow (Y := Y) (B10.out.rowOff (fun e => HNE.out e.symm) _), hHeld⟩ _
       refine AllReadyH.cons rfl (fun K hK => ?_) AllReadyH.nil
       refine if_wanted rfl ?_
       go_simp
       have bn : CBlk (x3.alloc (.cells #[.int .u8 0, .int .i16 0, .int .u8 0, .int .i16 0, .int .u8 0, .int .i16 0, .int .u8 0, .int .i16 0, .int .u8 0, .int .i16 0, .int .u8 0, .int .i16 0, .int .u8 0, .int .i16 0, .int .u8 0, .int .i16 0, .int .u8 0, .int .i16 0, .int .u8 0, .int .i16 0, .int .u8 0, .int .i16 0, .int .u8 0, .int .i16 0] 31)) x3.heap.size 31 noB := CBlk.new' rfl rfl
       have hn : w1.heap.size ≤ x3.heap.size := hHeld.size
       have hH2 : Below w1.heap.size w1 (x3.alloc (.cells #[.int .u8 0, .int .i16 0, .int .u8 0, .int .i16 0, .int .u8 0, .int .i16 0, .int .u8 0, .int .i16 0, .int .u8 0, .int .i16 0, .int .u8 0, .int .i16 0, .int .u8 0, .int .i16 0, .int .u8 0, .int .i16 0, .int .u8 0, .int .i16 0, .int .u8 0, .int .i16 0, .int .u8 0, .int .i16 0, .int .u8 0, .int .i16 0] 31)) := hHeld.alloc hHeld.size _
       obtain ⟨x6, hx⟩ : ∃ x, x3.alloc (.cells #[.int .u8 0, .int .i16 0, .int .u8 0, .int .i16 0, .int .u8 0, .int .i16 0, .int .u8 0, .int .i16 0, .int .u8 0, .int .i16 0, .int .u8 0, .int .i16 0, .int .u8 0, .int .i16 0, .int .u8 0, .int .i16 0, .int .u8 0, .int .i16 0, .int .u8 0, .int .i16 0, .int .u8 0, .int .i16 0, .int .u8 0, .int .i16 0] 31) = x := ⟨_, rfl⟩
       obtain ⟨N10, hN⟩ : ∃ N, x3.heap.size = N := ⟨_, rfl⟩
       rw [hx] at hH2 bn ⊢
       rw [hN] at hn bn ⊢
       have B10 := Lib.hid bn
       have H10 := Lib.hid hn
       clear bn hn hx hN hHeld
       refine hK.out _ _ hH2 (fun hHeld => ?_)
       clear hK K hH2
       try simp only [Act.put, zA, zB, zC, zD, zE, zF]
       refine wpAnyH_ready (rs := [9]) (by kernel_rfl) (by simp) ?_
       refine AllReadyH.cons rfl (fun K hK => ?_) AllReadyH.nil
       refine if_wanted rfl ?_
       go_simp
       have bn : CBlk (x6.alloc (.cells #[.int .u8 0, .int .i16 0, .int .u8 0, .int .i16 0, .int .u8 0, .int .i16 0, .int .u8 0, .int .i16 0, .int .u8 0, .int .i16 0, .int .u8 0, .int .i16 0, .int .u8 0, .int .i16 0, .int .u8 0, .int .i16 0, .int .u8 0, .int .i16 0, .int .u8 0, .int .i16 0, .int .u8 0, .int .i16 0, .int .u8 0, .int .i16 0] 31)) x6.heap.size 31 noB := CBlk.new' rfl rfl
       have hn : w1.heap.size ≤ x6.heap.size := hHeld.size
       have hH2 : Below w1.heap.size w1 (x6.alloc (.cells #[.int .u8 0, .int .i16 0, .int .u8 0, .int .i16 0, .int .u8 0, .int .i16 0, .int .u8 0, .int .i16 0, .int .u8 0, .int .i16 0, .int .u8 0, .int .i16 0, .int .u8 0, .int .i16 0, .int .u8 0, .int .i16 0, .int .u8 0, .int .i16 0, .int .u8 0, .int .i16 0, .int .u8 0, .int .i16 0, .int .u8 0, .int .i16 0] 31)) := hHeld.alloc hHeld.size _
       have C10 : Hid (CBlk (x6.alloc (.cells #[.int .u8 0, .int .i16 0, .int .u8 0, .int .i16 0, .int .u8 0, .int .i16 0, .int .u8 0, .int .i16 0, .int .u8 0, .int .i16 0, .int .u8 0, .int .i16 0, .int .u8 0, .int .i16 0, .int .u8 0, .int .i16 0, .int .u8 0, .int .i16 0, .int .u8 0, .int .i16 0, .int .u8 0, .int .i16 0, .int .u8 0, .int .i16 0] 31)) N10 31 noB) := B10.out.alloc _
       have hNE0 : N10 < x6.heap.size := B10.out.lt
       clear B10
       obtain ⟨x7, hx⟩ : ∃ x, x6.alloc (.cells #[.int .u8 0, .int .i16 0, .int .u8 0, .int .i16 0, .int .u8 0, .int .i16 0, .int .u8 0, .int .i16 0, .int .u8 0, .int .i16 0, .int .u8 0, .int .i16 0, .int .u8 0, .int .i16 0, .int .u8 0, .int .i16 0, .int .u8 0, .int .i16 0, .int .u8 0, .int .i16 0, .int .u8 0, .int .i16 0, .int .u8 0, .int .i16 0] 31) = x := ⟨_, rfl⟩
       obtain ⟨N9, hN⟩ : ∃ N, x6.heap.size = N := ⟨_, rfl⟩
       rw [hx] at hH2 bn C10 ⊢
       rw [hN] at hn bn hNE0 ⊢
       have B10 := C10
       clear C10
       have hNE := Lib.hid hNE0
       clear hNE0
       have B9 := Lib.hid bn
       have H9 := Lib.hid hn
       clear bn hn hx hN hHeld
       refine hK.out _ _ hH2 (fun hHeld => ?_)
       clear hK K hH2
       try simp only [Act.put, zA, zB, zC, zD, zE, zF]
       have HNE : Hid (N9 ≠ N10) := by have := hNE.out; show N9 ≠ N10; omega
       refine wpAnyH_ready (rs := [11]) (by kernel_rfl) (by simp) ?_
       refine AllReadyH.cons rfl (fun K hK => ?_) AllReadyH.nil
       refine if_wanted rfl (wp_store_row 31 (.tmp 8) (.tmp 26) rfl N9 (ccells X).toArray rfl rfl 31 _ B9.out (size_of_crate Tryd.sizeCr _ HX.out.1) (by show (ccells noB).toArray.size = _; rw [ccells_size _ HX.out.1]; rfl) (ccells_one _) ?_)
       refine hK.out _ _ (Below.setRow hHeld _ _ H9.out) (fun hHeld => ?_)
       clear hK K
       try simp only [Act.put, zA, zB, zC]
       refine wpAnyH_ready (rs := [12]) (by kernel_rfl) (by simp) ?_
       refine AllReadyH.cons rfl (fun K hK => ?_) AllReadyH.nil
       refine if_wanted rfl (wp_store_row 31 (.tmp 9) (.tmp 27) rfl N10 (ccells Y).toArray rfl rfl 31 _ (B10.out.rowOff (fun e => HNE.out e.symm) _) (size_of_crate Tryd.sizeCr _ HY.out.1) (by show (ccells noB).toArray.size = _; rw [ccells_size _ HY.out.1]; rfl) (ccells_one _) ?_)
       refine hK.out _ _ (Below.setRow hHeld _ _ H10.out) (fun hHeld => ?_)
       clear hK K
       try simp only [Act.put, zA, zB, zC]
       refine wpAnyH_ready (rs := [13]) (by kernel_rfl) (by simp) ?_
       refine AllReadyH.cons rfl (fun K hK => ?_) AllReadyH.nil
       refine if_wanted rfl ?_
       refine wp_assign0 rfl rfl ?_
       refine hK.out _ _ hHeld (fun hHeld => ?_)
       clear hK K
       try simp only [Act.put, zA, zB, zC, zD, zE, zF]
       exact wpAnyH_done (by kernel_rfl) ⟨N9, N10, rfl, rfl, (CBlk.setRow (Y := X) B9.out).rowOff HNE.out _, CBlk.setRow (Y := Y) (B10.out.rowOff (fun e => HNE.out e.symm) _), hHeld⟩ _
      refine AllReadyH.cons rfl (fun K hK => ?_) ?_
      ·skip
       refine if_wanted rfl ?_
       go_simp
       have bn : CBlk (x2.alloc (.cells #[.int .u8 0, .int .i16 0, .int .u8 0, .int .i16 0, .int .u8 0, .int .i16 0, .int .u8 0, .int .i16 0, .int .u8 0, .int .i16 0, .int .u8 0, .int .i16 0, .int .u8 0, .int .i16 0, .int .u8 0, .int .i16 0, .int .u8 0, .int .i16 0, .int .u8 0, .int .i16 0, .int .u8 0, .int .i16 0, .int .u8 0, .int .i16 0] 31)) x2.heap.size 31 noB := CBlk.new' rfl rfl
       have hn : w1.heap.size ≤ x2.heap.size := hHeld.size
       have hH2 : Below w1.heap.size w1 (x2.alloc (.cells #[.int .u8 0, .int .i16 0, .int .u8 0, .int .i16 0, .int .u8 0, .int .i16 0, .int .u8 0, .int .i16 0, .int .u8 0, .int .i16 0, .int .u8 0, .int .i16 0, .int .u8 0, .int .i16 0, .int .u8 0, .int .i16 0, .int .u8 0, .int .i16 0, .int .u8 0, .int .i16 0, .int .u8 0, .int .i16 0, .int .u8 0, .int .i16 0] 31)) := hHeld.alloc hHeld.size _
       obtain ⟨x8, hx⟩ : ∃ x, x2.alloc (.cells #[.int .u8 0, .int .i16 0, .int .u8 0, .int .i16 0, .int .u8 0, .int .i16 0, .int .u8 0, .int .i16 0, .int .u8 0, .int .i16 0, .int .u8 0, .int .i16 0, .int .u8 0, .int .i16 0, .int .u8 0, .int .i16 0, .int .u8 0, .int .i16 0, .int .u8 0, .int .i16 0, .int .u8 0, .int .i16 0, .int .u8 0, .int .i16 0] 31) = x := ⟨_, rfl⟩
       obtain ⟨N9, hN⟩ : ∃ N, x2.heap.size = N := ⟨_, rfl⟩
       rw [hx] at hH2 bn ⊢
       rw [hN] at hn bn ⊢
       have B9 := Lib.hid bn
       have H9 := Lib.hid hn
       clear bn hn hx hN hHeld
       refine hK.out _ _ hH2 (fun hHeld => ?_)
       clear hK K hH2
       try simp only [Act.put, zA, zB, zC, zD, zE, zF]
       refine wpAnyH_ready (rs := [4, 10]) (by kernel_rfl) (by simp) ?_
       refine AllReadyH.cons rfl (fun K hK => ?_) ?_
       ·skip
        refine if_wanted rfl ?_
        go_simp
        refine (HI.out ad _ (HE.out.below (I3.out.trans (hHeld.mono I3.out.size)) (Nat.le_refl _))).mono ?_
        rintro e x9 ⟨rfl, hb⟩
        have hH2 : Below w1.heap.size w1 x9 := hHeld.trans (hb.mono hHeld.size)
        have C9 : Hid (CBlk x9 N9 31 noB) := B9.out.below hb B9.out.lt
        clear B9
        have B9 := C9
        clear C9
        clear hb hHeld
        dsimp only
        refine hK.out _ _ hH2 (fun hHeld => ?_)
        clear hK K hH2
        try simp only [Act.put, zA, zB, zC, zD, zE, zF]
        refine wpAnyH_take (i := 5) (v := .tuple #[.agg (ccells X).toArray, .agg (ccells Y).toArray, .int .i64 c]) rfl (by kernel_rfl) (by kernel_rfl) (by kernel_rfl) (fun _ _ _ ⟨_, _, h, _⟩ => nomatch h) (Or.inl ⟨by rfl, fun w _ => by go_simp⟩) (by assumption) ?_
        try simp only [Act.put, zA, zB, zC, zD, zE, zF]
        refine wpAnyH_take (i := 6) (v := .agg (ccells X).toArray) rfl (by kernel_rfl) (by kernel_rfl) (by kernel_rfl) (fun _ _ _ ⟨_, _, h, _⟩ => nomatch h) (Or.inl ⟨by rfl, fun w _ => by go_simp⟩) (by assumption) ?_
        try simp only [Act.put, zA, zB, zC, zD, zE, zF]
        refine wpAnyH_take (i := 7) (v := .agg (ccells Y).toArray) rfl (by kernel_rfl) (by kernel_rfl) (by kernel_rfl) (fun _ _ _ ⟨_, _, h, _⟩ => nomatch h) (Or.inl ⟨by rfl, fun w _ => by go_simp⟩) (by assumption) ?_
        try simp only [Act.put, zA, zB, zC, zD, zE, zF]
        refine wpAnyH_take (i := 8) (v := .int .i64 c) rfl (by kernel_rfl) (by kernel_rfl) (by kernel_rfl) (fun _ _ _ ⟨_, _, h, _⟩ => nomatch h) (Or.inl ⟨by rfl, fun w _ => by go_simp⟩) (by assumption) ?_
        try simp only [Act.put, zA, zB, zC, zD, zE, zF]
        refine wpAnyH_ready (rs := [10]) (by kernel_rfl) (by simp) ?_
        refine AllReadyH.cons rfl (fun K hK => ?_) AllReadyH.nil
        refine if_wanted rfl ?_
        go_simp
        have bn : CBlk (x9.alloc (.cells #[.int .u8 0, .int .i16 0, .int .u8 0, .int .i16 0, .int .u8 0, .int .i16 0, .int .u8 0, .int .i16 0, .int .u8 0, .int .i16 0, .int .u8 0, .int .i16 0, .int .u8 0, .int .i16 0, .int .u8 0, .int .i16 0, .int .u8 0, .int .i16 0, .int .u8 0, .int .i16 0, .int .u8 0, .int .i16 0, .int .u8 0, .int .i16 0] 31)) x9.heap.size 31 noB := CBlk.new' rfl rfl
        have hn : w1.heap.size ≤ x9.heap.size := hHeld.size
        have hH2 : Below w1.heap.size w1 (x9.alloc (.cells #[.int .u8 0, .int .i16 0, .int .u8 0, .int .i16 0, .int .u8 0, .int .i16 0, .int .u8 0, .int .i16 0, .int .u8 0, .int .i16 0, .int .u8 0, .int .i16 0, .int .u8 0, .int .i16 0, .int .u8 0, .int .i16 0, .int .u8 0, .int .i16 0, .int .u8 0, .int .i16 0, .int .u8 0, .int .i16 0, .int .u8 0, .int .i16 0] 31)) := hHeld.alloc hHeld.size _
        have C9 : Hid (CBlk (x9.alloc (.cells #[.int .u8 0, .int .i16 0, .int .u8 0, .int .i16 0, .int .u8 0, .int .i16 0, .int .u8 0, .int .i16 0, .int .u8 0, .int .i16 0, .int .u8 0, .int .i16 0, .int .u8 0, .int .i16 0, .int .u8 0, .int .i16 0, .int .u8 0, .int .i16 0, .int .u8 0, .int .i16 0, .int .u8 0, .int .i16 0, .int .u8 0, .int .i16 0] 31)) N9 31 noB) := B9.out.alloc _
        have hNE0 : N9 < x9.heap.size := B9.out.lt
        clear B9
        obtain ⟨x10, hx⟩ : ∃ x, x9.alloc (.cells #[.int .u8 0, .int .i16 0, .int .u8 0, .int .i16 0, .int .u8 0, .int .i16 0, .int .u8 0, .int .i16 0, .int .u8 0, .int .i16 0, .int .u8 0, .int .i16 0, .int .u8 0, .int .i16 0, .int .u8 0, .int .i16 0, .int .u8 0, .int .i16 0, .int .u8 0, .int .i16 0, .int .u8 0, .int .i16 0, .int .u8 0, .int .i16 0] 31) = x := ⟨_, rfl⟩
        obtain ⟨N10, hN⟩ : ∃ N, x9.heap.size = N := ⟨_, rfl⟩
        rw [hx] at hH2 bn C9 ⊢
        rw [hN] at hn bn hNE0 ⊢
        have B9 := C9
        clear C9
        have hNE := Lib.hid hNE0
        clear hNE0
        have B10 := Lib.hid bn
        have H10 := Lib.hid hn
        clear bn hn hx hN hHeld
        refine hK.out _ _ hH2 (fun hHeld => ?_)
        clear hK K hH2
        try simp only [Act.put, zA, zB, zC, zD, zE, zF]
        have HNE : Hid (N9 ≠ N10) := by have := hNE.out; show N9 ≠ N10; omega
        refine wpAnyH_ready (rs := [11]) (by kernel_rfl) (by simp) ?_
        refine AllReadyH.cons rfl (fun K hK => ?_) AllReadyH.nil
        refine if_wanted rfl (wp_store_row 31 (.tmp 8) (.tmp 26) rfl N9 (ccells X).toArray rfl rfl 31 _ B9.out (size_of_crate Tryd.sizeCr _ HX.out.1) (by show (ccells noB).toArray.size = _; rw [ccells_size _ HX.out.1]; rfl) (ccells_one _) ?_)
        refine hK.out _ _ (Below.setRow hHeld _ _ H9.out) (fun hHeld => ?_)
        clear hK K
        try simp only [Act.put, zA, zB, zC]
        refine wpAnyH_ready (rs := [12]) (by kernel_rfl) (by simp) ?_
        refine AllReadyH.cons rfl (fun K hK => ?_) AllReadyH.nil
        refine if_wanted rfl (wp_store_row 31 (.tmp 9) (.tmp 27) rfl N10 (ccells Y).toArray rfl rfl 31 _ (B10.out.rowOff (fun e => HNE.out e.symm) _) (size_of_crate Tryd.sizeCr _ HY.out.1) (by show (ccells noB).toArray.size = _; rw [ccells_size _ HY.out.1]; rfl) (ccells_one _) ?_)
        refine hK.out _ _ (Below.setRow hHeld _ _ H10.out) (fun hHeld => ?_)
        clear hK K
        try simp only [Act.put, zA, zB, zC]
        refine wpAnyH_ready (rs := [13]) (by kernel_rfl) (by simp) ?_
        refine AllReadyH.cons rfl (fun K hK => ?_) AllReadyH.nil
        refine if_wanted rfl ?_
        refine wp_assign0 rfl rfl ?_
        refine hK.out _ _ hHeld (fun hHeld => ?_)
        clear hK K
        try simp only [Act.put, zA, zB, zC, zD, zE, zF]
        exact wpAnyH_done (by kernel_rfl) ⟨N9, N10, rfl, rfl, (CBlk.setRow (Y := X) B9.out).rowOff HNE.out _, CBlk.setRow (Y := Y) (B10.out.rowOff (fun e => HNE.out e.symm) _), hHeld⟩ _
       refine AllReadyH.cons rfl (fun K hK => ?_) AllReadyH.nil
       refine if_wanted rfl ?_
       go_simp
       have bn : CBlk (x8.alloc (.cells #[.int .u8 0, .int .i16 0, .int .u8 0, .int .i16 0, .int .u8 0, .int .i16 0, .int .u8 0, .int .i16 0, .int .u8 0, .int .i16 0, .int .u8 0, .int .i16 0, .int .u8 0, .int .i16 0, .int .u8 0, .int .i16 0, .int .u8 0, .int .i16 0, .int .u8 0, .int .i16 0, .int .u8 0, .int .i16 0, .int .u8 0, .int .i16 0] 31)) x8.heap.size 31 noB := CBlk.new' rfl rfl
       have hn : w1.heap.size ≤ x8.heap.size := hHeld.size
       have hH2 : Below w1.heap.size w1 (x8.alloc (.cells #[.int .u8 0, .int .i16 0, .int .u8 0, .int .i16 0, .int .u8 0, .int .i16 0, .int .u8 0, .int .i16 0, .int .u8 0, .int .i16 0, .int .u8 0, .int .i16 0, .int .u8 0, .int .i16 0, .int .u8 0, .int .i16 0, .int .u8 0, .int .i16 0, .int .u8 0, .int .i16 0, .int .u8 0, .int .i16 0, .int .u8 0, .int .i16 0] 31)) := hHeld.alloc hHeld.size _
       have C9 : Hid (CBlk (x8.alloc (.cells #[.int .u8 0, .int .i16 0, .int .u8 0, .int .i16 0, .int .u8 0, .int .i16 0, .int .u8 0, .int .i16 0, .int .u8 0, .int .i16 0, .int .u8 0, .int .i16 0, .int .u8 0, .int .i16 0, .int .u8 0, .int .i16 0, .int .u8 0, .int .i16 0, .int .u8 0, .int .i16 0, .int .u8 0, .int .i16 0, .int .u8 0, .int .i16 0] 31)) N9 31 noB) := B9.out.alloc _
       have hNE0 : N9 < x8.heap.size := B9.out.lt
       clear B9
       obtain ⟨x11, hx⟩ : ∃ x, x8.alloc (.cells #[.int .u8 0, .int .i16 0, .int .u8 0, .int .i16 0, .int .u8 0, .int .i16 0, .int .u8 0, .int .i16 0, .int .u8 0, .int .i16 0, .int .u8 0, .int .i16 0, .int .u8 0, .int .i16 0, .int .u8 0, .int .i16 0, .int .u8 0, .int .i16 0, .int .u8 0, .int .i16 0, .int .u8 0, .int .i16 0, .int .u8 0, .int .i16 0] 31) = x := ⟨_, rfl⟩
       obtain ⟨N10, hN⟩ : ∃ N, x8.heap.size = N := ⟨_, rfl⟩
       rw [hx] at hH2 bn C9 ⊢
       rw [hN] at hn bn hNE0 ⊢
       have B9 := C9
       clear C9
       have hNE := Lib.hid hNE0
       clear hNE0
       have B10 := Lib.hid bn
       have H10 := Lib.hid hn
       clear bn hn hx hN hHeld
       refine hK.out _ _ hH2 (fun hHeld => ?_)
       clear hK K hH2
       try simp only [Act.put, zA, zB, zC, zD, zE, zF]
       refine wpAnyH_ready (rs := [4]) (by kernel_rfl) (by simp) ?_
       refine AllReadyH.cons rfl (fun K hK => ?_) AllReadyH.nil
       refine if_wanted rfl ?_
       go_simp
       refine (HI.out ad _ (HE.out.below (I3.out.trans (hHeld.mono I3.out.size)) (Nat.le_refl _))).mono ?_
       rintro e x12 ⟨rfl, hb⟩
       have hH2 : Below w1.heap.size w1 x12 := hHeld.trans (hb.mono hHeld.size)
       have C9 : Hid (CBlk x12 N9 31 noB) := B9.out.below hb B9.out.lt
       clear B9
       have B9 := C9
       clear C9
       have C10 : Hid (CBlk x12 N10 31 noB) := B10.out.below hb B10.out.lt
       clear B10
       have B10 := C10
       clear C10
       clear hb hHeld
       dsimp only
       refine hK.out _ _ hH2 (fun hHeld => ?_)
       clear hK K hH2
       try simp only [Act.put, zA, zB, zC, zD, zE, zF]
       refine wpAnyH_take (i := 5) (v := .tuple #[.agg (ccells X).toArray, .agg (ccells Y).toArray, .int .i64 c]) rfl (by kernel_rfl) (by kernel_rfl) (by kernel_rfl) (fun _ _ _ ⟨_, _, h, _⟩ => nomatch h) (Or.inl ⟨by rfl, fun w _ => by go_simp⟩) (by assumption) ?_
       try simp only [Act.put, zA, zB, zC, zD, zE, zF]
       refine wpAnyH_take (i := 6) (v := .agg (ccells X).toArray) rfl (by kernel_rfl) (by kernel_rfl) (by kernel_rfl) (fun _ _ _ ⟨_, _, h, _⟩ => nomatch h) (Or.inl ⟨by rfl, fun w _ => by go_simp⟩) (by assumption) ?_
       try simp only [Act.put, zA, zB, zC, zD, zE, zF]
       refine wpAnyH_take (i := 7) (v := .agg (ccells Y).toArray) rfl (by kernel_rfl) (by kernel_rfl) (by kernel_rfl) (fun _ _ _ ⟨_, _, h, _⟩ => nomatch h) (Or.inl ⟨by rfl, fun w _ => by go_simp⟩) (by assumption) ?_
       try simp only [Act.put, zA, zB, zC, zD, zE, zF]
       refine wpAnyH_take (i := 8) (v := .int .i64 c) rfl (by kernel_rfl) (by kernel_rfl) (by kernel_rfl) (fun _ _ _ ⟨_, _, h, _⟩ => nomatch h) (Or.inl ⟨by rfl, fun w _ => by go_simp⟩) (by assumption) ?_
       try simp only [Act.put, zA, zB, zC, zD, zE, zF]
       have HNE : Hid (N9 ≠ N10) := by have := hNE.out; show N9 ≠ N10; omega
       refine wpAnyH_ready (rs := [11]) (by kernel_rfl) (by simp) ?_
       refine AllReadyH.cons rfl (fun K hK => ?_) AllReadyH.nil
       refine if_wanted rfl (wp_store_row 31 (.tmp 8) (.tmp 26) rfl N9 (ccells X).toArray rfl rfl 31 _ B9.out (size_of_crate Tryd.sizeCr _ HX.out.1) (by show (ccells noB).toArray.size = _; rw [ccells_size _ HX.out.1]; rfl) (ccells_one _) ?_)
       refine hK.out _ _ (Below.setRow hHeld _ _ H9.out) (fun hHeld => ?_)
       clear hK K
       try simp only [Act.put, zA, zB, zC]
       refine wpAnyH_ready (rs := [12]) (by kernel_rfl) (by simp) ?_
       refine AllReadyH.cons rfl (fun K hK => ?_) AllReadyH.nil
       refine if_wanted rfl (wp_store_row 31 (.tmp 9) (.tmp 27) rfl N10 (ccells Y).toArray rfl rfl 31 _ (B10.out.rowOff (fun e => HNE.out e.symm) _) (size_of_crate Tryd.sizeCr _ HY.out.1) (by show (ccells noB).toArray.size = _; rw [ccells_size _ HY.out.1]; rfl) (ccells_one _) ?_)
       refine hK.out _ _ (Below.setRow hHeld _ _ H10.out) (fun hHeld => ?_)
       clear hK K
       try simp only [Act.put, zA, zB, zC]
       refine wpAnyH_ready (rs := [13]) (by kernel_rfl) (by simp) ?_
       refine AllReadyH.cons rfl (fun K hK => ?_) AllReadyH.nil
       refine if_wanted rfl ?_
       refine wp_assign0 rfl rfl ?_
       refine hK.out _ _ hHeld (fun hHeld => ?_)
       clear hK K
       try simp only [Act.put, zA, zB, zC, zD, zE, zF]
       exact wpAnyH_done (by kernel_rfl) ⟨N9, N10, rfl, rfl, (CBlk.setRow (Y := X) B9.out).rowOff HNE.out _, CBlk.setRow (Y := Y) (B10.out.rowOff (fun e => HNE.out e.symm) _), hHeld⟩ _
      refine AllReadyH.cons rfl (fun K hK => ?_) AllReadyH.nil
      refine if_wanted rfl ?_
      go_simp
      have bn : CBlk (x2.alloc (.cells #[.int .u8 0, .int .i16 0, .int .u8 0, .int .i16 0, .int .u8 0, .int .i16 0, .int .u8 0, .int .i16 0, .int .u8 0, .int .i16 0, .int .u8 0, .int .i16 0, .int .u8 0, .int .i16 0, .int .u8 0, .int .i16 0, .int .u8 0, .int .i16 0, .int .u8 0, .int .i16 0, .int .u8 0, .int .i16 0, .int .u8 0, .int .i16 0] 31)) x2.heap.size 31 noB := CBlk.new' rfl rfl
      have hn : w1.heap.size ≤ x2.heap.size := hHeld.size
      have hH2 : Below w1.heap.size w1 (x2.alloc (.cells #[.int .u8 0, .int .i16 0, .int .u8 0, .int .i16 0, .int .u8 0, .int .i16 0, .int .u8 0, .int .i16 0, .int .u8 0, .int .i16 0, .int .u8 0, .int .i16 0, .int .u8 0, .int .i16 0, .int .u8 0, .int .i16 0, .int .u8 0, .int .i16 0, .int .u8 0, .int .i16 0, .int .u8 0, .int .i16 0, .int .u8 0, .int .i16 0] 31)) := hHeld.alloc hHeld.size _
      obtain ⟨x13, hx⟩ : ∃ x, x2.alloc (.cells #[.int .u8 0, .int .i16 0, .int .u8 0, .int .i16 0, .int .u8 0, .int .i16 0, .int .u8 0, .int .i16 0, .int .u8 0, .int .i16 0, .int .u8 0, .int .i16 0, .int .u8 0, .int .i16 0, .int .u8 0, .int .i16 0, .int .u8 0, .int .i16 0, .int .u8 0, .int .i16 0, .int .u8 0, .int .i16 0, .int .u8 0, .int .i16 0] 31) = x := ⟨_, rfl⟩
      obtain ⟨N10, hN⟩ : ∃ N, x2.heap.size = N := ⟨_, rfl⟩
      rw [hx] at hH2 bn ⊢
      rw [hN] at hn bn ⊢
      have B10 := Lib.hid bn
      have H10 := Lib.hid hn
      clear bn hn hx hN hHeld
      refine hK.out _ _ hH2 (fun hHeld => ?_)
      clear hK K hH2
      try simp only [Act.put, zA, zB, zC, zD, zE, zF]
      refine wpAnyH_ready (rs := [4, 9]) (by kernel_rfl) (by simp) ?_
      refine AllReadyH.cons rfl (fun K hK => ?_) ?_
      ·skip
       refine if_wanted rfl ?_
       go_simp
       refine (HI.out ad _ (HE.out.below (I3.out.trans (hHeld.mono I3.out.size)) (Nat.le_refl _))).mono ?_
       rintro e x14 ⟨rfl, hb⟩
       have hH2 : Below w1.heap.size w1 x14 := hHeld.trans (hb.mono hHeld.size)
       have C10 : Hid (CBlk x14 N10 31 noB) := B10.out.below hb B10.out.lt
       clear B10
       have B10 := C10
       clear C10
       clear hb hHeld
       dsimp only
       refine hK.out _ _ hH2 (fun hHeld => ?_)
       clear hK K hH2
       try simp only [Act.put, zA, zB, zC, zD, zE, zF]
       refine wpAnyH_take (i := 5) (v := .tuple #[.agg (ccells X).toArray, .agg (ccells Y).toArray, .int .i64 c]) rfl (by kernel_rfl) (by kernel_rfl) (by kernel_rfl) (fun _ _ _ ⟨_, _, h, _⟩ => nomatch h) (Or.inl ⟨by rfl, fun w _ => by go_simp⟩) (by assumption) ?_
       try simp only [Act.put, zA, zB, zC, zD, zE, zF]
       refine wpAnyH_take (i := 6) (v := .agg (ccells X).toArray) rfl (by kernel_rfl) (by kernel_rfl) (by kernel_rfl) (fun _ _ _ ⟨_, _, h, _⟩ => nomatch h) (Or.inl ⟨by rfl, fun w _ => by go_simp⟩) (by assumption) ?_
       try simp only [Act.put, zA, zB, zC, zD, zE, zF]
       refine wpAnyH_take (i := 7) (v := .agg (ccells Y).toArray) rfl (by kernel_rfl) (by kernel_rfl) (by kernel_rfl) (fun _ _ _ ⟨_, _, h, _⟩ => nomatch h) (Or.inl ⟨by rfl, fun w _ => by go_simp⟩) (by assumption) ?_
       try simp only [Act.put, zA, zB, zC, zD, zE, zF]
       refine wpAnyH_take (i := 8) (v := .int .i64 c) rfl (by kernel_rfl) (by kernel_rfl) (by kernel_rfl) (fun _ _ _ ⟨_, _, h, _⟩ => nomatch h) (Or.inl ⟨by rfl, fun w _ => by go_simp⟩) (by assumption) ?_
       try simp only [Act.put, zA, zB, zC, zD, zE, zF]
       refine wpAnyH_ready (rs := [9]) (by kernel_rfl) (by simp) ?_
       refine AllReadyH.cons rfl (fun K hK => ?_) AllReadyH.nil
       refine if_wanted rfl ?_
       go_simp
       have bn : CBlk (x14.alloc (.cells #[.int .u8 0, .int .i16 0, .int .u8 0, .int .i16 0, .int .u8 0, .int .i16 0, .int .u8 0, .int .i16 0, .int .u8 0, .int .i16 0, .int .u8 0, .int .i16 0, .int .u8 0, .int .i16 0, .int .u8 0, .int .i16 0, .int .u8 0, .int .i16 0, .int .u8 0, .int .i16 0, .int .u8 0, .int .i16 0, .int .u8 0, .int .i16 0] 31)) x14.heap.size 31 noB := CBlk.new' rfl rfl
       have hn : w1.heap.size ≤ x14.heap.size := hHeld.size
       have hH2 : Below w1.heap.size w1 (x14.alloc (.cells #[.int .u8 0, .int .i16 0, .int .u8 0, .int .i16 0, .int .u8 0, .int .i16 0, .int .u8 0, .int .i16 0, .int .u8 0, .int .i16 0, .int .u8 0, .int .i16 0, .int .u8 0, .int .i16 0, .int .u8 0, .int .i16 0, .int .u8 0, .int .i16 0, .int .u8 0, .int .i16 0, .int .u8 0, .int .i16 0, .int .u8 0, .int .i16 0] 31)) := hHeld.alloc hHeld.size _
       have C10 : Hid (CBlk (x14.alloc (.cells #[.int .u8 0, .int .i16 0, .int .u8 0, .int .i16 0, .int .u8 0, .int .i16 0, .int .u8 0, .int .i16 0, .int .u8 0, .int .i16 0, .int .u8 0, .int .i16 0, .int .u8 0, .int .i16 0, .int .u8 0, .int .i16 0, .int .u8 0, .int .i16 0, .int .u8 0, .int .i16 0, .int .u8 0, .int .i16 0, .int .u8 0, .int .i16 0] 31)) N10 31 noB) := B10.out.alloc _
       have hNE0 : N10 < x14.heap.size := B10.out.lt
       clear B10
       obtain ⟨x15, hx⟩ : ∃ x, x14.alloc (.cells #[.int .u8 0, .int .i16 0, .int .u8 0, .int .i16 0, .int .u8 0, .int .i16 0, .int .u8 0, .int .i16 0, .int .u8 0, .int .i16 0, .int .u8 0, .int .i16 0, .int .u8 0, .int .i16 0, .int .u8 0, .int .i16 0, .int .u8 0, .int .i16 0, .int .u8 0, .int .i16 0, .int .u8 0, .int .i16 0, .int .u8 0, .int .i16 0] 31) = x := ⟨_, rfl⟩
       obtain ⟨N9, hN⟩ : ∃ N, x14.heap.size = N := ⟨_, rfl⟩
       rw [hx] at hH2 bn C10 ⊢
       rw [hN] at hn bn hNE0 ⊢
       have B10 := C10
       clear C10
       have hNE := Lib.hid hNE0
       clear hNE0
       have B9 := Lib.hid bn
       have H9 := Lib.hid hn
       clear bn hn hx hN hHeld
       refine hK.out _ _ hH2 (fun hHeld => ?_)
       clear hK K hH2
       try simp only [Act.put, zA, zB, zC, zD, zE, zF]
       have HNE : Hid (N9 ≠ N10) := by have := hNE.out; show N9 ≠ N10; omega
       refine wpAnyH_ready (rs := [11]) (by kernel_rfl) (by simp) ?_
       refine AllReadyH.cons rfl (fun K hK => ?_) AllReadyH.nil
       refine if_wanted rfl (wp_store_row 31 (.tmp 8) (.tmp 26) rfl N9 (ccells X).toArray rfl rfl 31 _ B9.out (size_of_crate Tryd.sizeCr _ HX.out.1) (by show (ccells noB).toArray.size = _; rw [ccells_size _ HX.out.1]; rfl) (ccells_one _) ?_)
       refine hK.out _ _ (Below.setRow hHeld _ _ H9.out) (fun hHeld => ?_)
       clear hK K
       try simp only [Act.put, zA, zB, zC]
       refine wpAnyH_ready (rs := [12]) (by kernel_rfl) (by simp) ?_
       refine AllReadyH.cons rfl (fun K hK => ?_) AllReadyH.nil
       refine if_wanted rfl (wp_store_row 31 (.tmp 9) (.tmp 27) rfl N10 (ccells Y).toArray rfl rfl 31 _ (B10.out.rowOff (fun e => HNE.out e.symm) _) (size_of_crate Tryd.sizeCr _ HY.out.1) (by show (ccells noB).toArray.size = _; rw [ccells_size _ HY.out.1]; rfl) (ccells_one _) ?_)
       refine hK.out _ _ (Below.setRow hHeld _ _ H10.out) (fun hHeld => ?_)
       clear hK K
       try simp only [Act.put, zA, zB, zC]
       refine wpAnyH_ready (rs := [13]) (by kernel_rfl) (by simp) ?_
       refine AllReadyH.cons rfl (fun K hK => ?_) AllReadyH.nil
       refine if_wanted rfl ?_
       refine wp_assign0 rfl rfl ?_
       refine hK.out _ _ hHeld (fun hHeld => ?_)
       clear hK K
       try simp only [Act.put, zA, zB, zC, zD, zE, zF]
       exact wpAnyH_done (by kernel_rfl) ⟨N9, N10, rfl, rfl, (CBlk.setRow (Y := X) B9.out).rowOff HNE.out _, CBlk.setRow (Y := Y) (B10.out.rowOff (fun e => HNE.out e.symm) _), hHeld⟩ _
      refine AllReadyH.cons rfl (fun K hK => ?_) AllReadyH.nil
      refine if_wanted rfl ?_
      go_simp
      have bn : CBlk (x13.alloc (.cells #[.int .u8 0, .int .i16 0, .int .u8 0, .int .i16 0, .int .u8 0, .int .i16 0, .int .u8 0, .int .i16 0, .int .u8 0, .int .i16 0, .int .u8 0, .int .i16 0, .int .u8 0, .int .i16 0, .int .u8 0, .int .i16 0, .int .u8 0, .int .i16 0, .int .u8 0, .int .i16 0, .int .u8 0, .int .i16 0, .int .u8 0, .int .i16 0] 31)) x13.heap.size 31 noB := CBlk.new' rfl rfl
      have hn : w1.heap.size ≤ x13.heap.size := hHeld.size
      have hH2 : Below w1.heap.size w1 (x13.alloc (.cells #[.int .u8 0, .int .i16 0, .int .u8 0, .int .i16 0, .int .u8 0, .int .i16 0, .int .u8 0, .int .i16 0, .int .u8 0, .int .i16 0, .int .u8 0, .int .i16 0, .int .u8 0, .int .i16 0, .int .u8 0, .int .i16 0, .int .u8 0, .int .i16 0, .int .u8 0, .int .i16 0, .int .u8 0, .int .i16 0, .int .u8 0, .int .i16 0] 31)) := hHeld.alloc hHeld.size _
      have C10 : Hid (CBlk (x13.alloc (.cells #[.int .u8 0, .int .i16 0, .int .u8 0, .int .i16 0, .int .u8 0, .int .i16 0, .int .u8 0, .int .i16 0, .int .u8 0, .int .i16 0, .int .u8 0, .int .i16 0, .int .u8 0, .int .i16 0, .int .u8 0, .int .i16 0, .int .u8 0, .int .i16 0, .int .u8 0, .int .i16 0, .int .u8 0, .int .i16 0, .int .u8 0, .int .i16 0] 31)) N10 31 noB) := B10.out.alloc _
      have hNE0 : N10 < x13.heap.size := B10.out.lt
      clear B10
      obtain ⟨x16, hx⟩ : ∃ x, x13.alloc (.cells #[.int .u8 0, .int .i16 0, .int .u8 0, .int .i16 0, .int .u8 0, .int .i16 0, .int .u8 0, .int .i16 0, .int .u8 0, .int .i16 0, .int .u8 0, .int .i16 0, .int .u8 0, .int .i16 0, .int .u8 0, .int .i16 0, .int .u8 0, .int .i16 0, .int .u8 0, .int .i16 0, .int .u8 0, .int .i16 0, .int .u8 0, .int .i16 0] 31) = x := ⟨_, rfl⟩
      obtain ⟨N9, hN⟩ : ∃ N, x13.heap.size = N := ⟨_, rfl⟩
      rw [hx] at hH2 bn C10 ⊢
      rw [hN] at hn bn hNE0 ⊢
      have B10 := C10
      clear C10
      have hNE := Lib.hid hNE0
      clear hNE0
      have B9 := Lib.hid bn
      have H9 := Lib.hid hn
      clear bn hn hx hN hHeld
      refine hK.out _ _ hH2 (fun hHeld => ?_)
      clear hK K hH2
      try simp only [Act.put, zA, zB, zC, zD, zE, zF]
      refine wpAnyH_ready (rs := [4]) (by kernel_rfl) (by simp) ?_
      refine AllReadyH.cons rfl (fun K hK => ?_) AllReadyH.nil
      refine if_wanted rfl ?_
      go_simp
      refine (HI.out ad _ (HE.out.below (I3.out.trans (hHeld.mono I3.out.size)) (Nat.le_refl _))).mono ?_
      rintro e x17 ⟨rfl, hb⟩
      have hH2 : Below w1.heap.size w1 x17 := hHeld.trans (hb.mono hHeld.size)
      have C10 : Hid (CBlk x17 N10 31 noB) := B10.out.below hb B10.out.lt
      clear B10
      have B10 := C10
      clear C10
      have C9 : Hid (CBlk x17 N9 31 noB) := B9.out.below hb B9.out.lt
      clear B9
      have B9 := C9
      clear C9
      clear hb hHeld
      dsimp only
      refine hK.out _ _ hH2 (fun hHeld => ?_)
      clear hK K hH2
      try simp only [Act.put, zA, zB, zC, zD, zE, zF]
      refine wpAnyH_take (i := 5) (v := .tuple #[.agg (ccells X).toArray, .agg (ccells Y).toArray, .int .i64 c]) rfl (by kernel_rfl) (by kernel_rfl) (by kernel_rfl) (fun _ _ _ ⟨_, _, h, _⟩ => nomatch h) (Or.inl ⟨by rfl, fun w _ => by go_simp⟩) (by assumption) ?_
      try simp only [Act.put, zA, zB, zC, zD, zE, zF]
      refine wpAnyH_take (i := 6) (v := .agg (ccells X).toArray) rfl (by kernel_rfl) (by kernel_rfl) (by kernel_rfl) (fun _ _ _ ⟨_, _, h, _⟩ => nomatch h) (Or.inl ⟨by rfl, fun w _ => by go_simp⟩) (by assumption) ?_
      try simp only [Act.put, zA, zB, zC, zD, zE, zF]
      refine wpAnyH_take (i := 7) (v := .agg (ccells Y).toArray) rfl (by kernel_rfl) (by kernel_rfl) (by kernel_rfl) (fun _ _ _ ⟨_, _, h, _⟩ => nomatch h) (Or.inl ⟨by rfl, fun w _ => by go_simp⟩) (by assumption) ?_
      try simp only [Act.put, zA, zB, zC, zD, zE, zF]
      refine wpAnyH_take (i := 8) (v := .int .i64 c) rfl (by kernel_rfl) (by kernel_rfl) (by kernel_rfl) (fun _ _ _ ⟨_, _, h, _⟩ => nomatch h) (Or.inl ⟨by rfl, fun w _ => by go_simp⟩) (by assumption) ?_
      try simp only [Act.put, zA, zB, zC, zD, zE, zF]
      have HNE : Hid (N9 ≠ N10) := by have := hNE.out; show N9 ≠ N10; omega
      refine wpAnyH_ready (rs := [11]) (by kernel_rfl) (by simp) ?_
      refine AllReadyH.cons rfl (fun K hK => ?_) AllReadyH.nil
      refine if_wanted rfl (wp_store_row 31 (.tmp 8) (.tmp 26) rfl N9 (ccells X).toArray rfl rfl 31 _ B9.out (size_of_crate Tryd.sizeCr _ HX.out.1) (by show (ccells noB).toArray.size = _; rw [ccells_size _ HX.out.1]; rfl) (ccells_one _) ?_)
      refine hK.out _ _ (Below.setRow hHeld _ _ H9.out) (fun hHeld => ?_)
      clear hK K
      try simp only [Act.put, zA, zB, zC]
      refine wpAnyH_ready (rs := [12]) (by kernel_rfl) (by simp) ?_
      refine AllReadyH.cons rfl (fun K hK => ?_) AllReadyH.nil
      refine if_wanted rfl (wp_store_row 31 (.tmp 9) (.tmp 27) rfl N10 (ccells Y).toArray rfl rfl 31 _ (B10.out.rowOff (fun e => HNE.out e.symm) _) (size_of_crate Tryd.sizeCr _ HY.out.1) (by show (ccells noB).toArray.size = _; rw [ccells_size _ HY.out.1]; rfl) (ccells_one _) ?_)
      refine hK.out _ _ (Below.setRow hHeld _ _ H10.out) (fun hHeld => ?_)
      clear hK K
      try simp only [Act.put, zA, zB, zC]
      refine wpAnyH_ready (rs := [13]) (by kernel_rfl) (by simp) ?_
      refine AllReadyH.cons rfl (fun K hK => ?_) AllReadyH.nil
      refine if_wanted rfl ?_
      refine wp_assign0 rfl rfl ?_
      refine hK.out _ _ hHeld (fun hHeld => ?_)
      clear hK K
      try simp only [Act.put, zA, zB, zC, zD, zE, zF]
      exact wpAnyH_done (by kernel_rfl) ⟨N9, N10, rfl, rfl, (CBlk.setRow (Y := X) B9.out).rowOff HNE.out _, CBlk.setRow (Y := Y) (B10.out.rowOff (fun e => HNE.out e.symm) _), hHeld⟩ _
     refine AllReadyH.cons rfl (fun K hK => ?_) ?_
     ·skip
      refine if_wanted rfl ?_
      go_simp
      have bn : CBlk (x1.alloc (.cells #[.int .u8 0, .int .i16 0, .int .u8 0, .int .i16 0, .int .u8 0, .int .i16 0, .int .u8 0, .int .i16 0, .int .u8 0, .int .i16 0, .int .u8 0, .int .i16 0, .int .u8 0, .int .i16 0, .int .u8 0, .int .i16 0, .int .u8 0, .int .i16 0, .int .u8 0, .int .i16 0, .int .u8 0, .int .i16 0, .int .u8 0, .int .i16 0] 31)) x1.heap.size 31 noB := CBlk.new' rfl rfl
      have hn : w1.heap.size ≤ x1.heap.size := hHeld.size
      have hH2 : Below w1.heap.size w1 (x1.alloc (.cells #[.int .u8 0, .int .i16 0, .int .u8 0, .int .i16 0, .int .u8 0, .int .i16 0, .int .u8 0, .int .i16 0, .int .u8 0, .int .i16 0, .int .u8 0, .int .i16 0, .int .u8 0, .int .i16 0, .int .u8 0, .int .i16 0, .int .u8 0, .int .i16 0, .int .u8 0, .int .i16 0, .int .u8 0, .int .i16 0, .int .u8 0, .int .i16 0] 31)) := hHeld.alloc hHeld.size _
      obtain ⟨x18, hx⟩ : ∃ x, x1.alloc (.cells #[.int .u8 0, .int .i16 0, .int .u8 0, .int .i16 0, .int .u8 0, .int .i16 0, .int .u8 0, .int .i16 0, .int .u8 0, .int .i16 0, .int .u8 0, .int .i16 0, .int .u8 0, .int .i16 0, .int .u8 0, .int .i16 0, .int .u8 0, .int .i16 0, .int .u8 0, .int .i16 0, .int .u8 0, .int .i16 0, .int .u8 0, .int .i16 0] 31) = x := ⟨_, rfl⟩
      obtain ⟨N9, hN⟩ : ∃ N, x1.heap.size = N := ⟨_, rfl⟩
      rw [hx] at hH2 bn ⊢
      rw [hN] at hn bn ⊢
      have B9 := Lib.hid bn
      have H9 := Lib.hid hn
      clear bn hn hx hN hHeld
      refine hK.out _ _ hH2 (fun hHeld => ?_)
      clear hK K hH2
      try simp only [Act.put, zA, zB, zC, zD, zE, zF]
      refine wpAnyH_ready (rs := [3, 10]) (by kernel_rfl) (by simp) ?_
      refine AllReadyH.cons rfl (fun K hK => ?_) ?_
      ·skip
       refine if_wanted rfl ?_
       go_simp
       refine (toCrate_any b HB.out.1 _).mono ?_
       rintro e x19 ⟨rfl, hb⟩
       have hH2 : Below w1.heap.size w1 x19 := hHeld.trans (hb.mono hHeld.size)
       have C9 : Hid (CBlk x19 N9 31 noB) := B9.out.below hb B9.out.lt
       clear B9
       have B9 := C9
       clear C9
       clear hb hHeld
       dsimp only
       refine hK.out _ _ hH2 (fun hHeld => ?_)
       clear hK K hH2
       try simp only [Act.put, zA, zB, zC, zD, zE, zF]
       refine wpAnyH_ready (rs := [4, 10]) (by kernel_rfl) (by simp) ?_
       refine AllReadyH.cons rfl (fun K hK => ?_) ?_
       ·skip
        refine if_wanted rfl ?_
        go_simp
        refine (HI.out ad _ (HE.out.below (I3.out.trans (hHeld.mono I3.out.size)) (Nat.le_refl _))).mono ?_
        rintro e x20 ⟨rfl, hb⟩
        have hH2 : Below w1.heap.size w1 x20 := hHeld.trans (hb.mono hHeld.size)
        have C9 : Hid (CBlk x20 N9 31 noB) := B9.out.below hb B9.out.lt
        clear B9
        have B9 := C9
        clear C9
        clear hb hHeld
        dsimp only
        refine hK.out _ _ hH2 (fun hHeld => ?_)
        clear hK K hH2
        try simp only [Act.put, zA, zB, zC, zD, zE, zF]
        refine wpAnyH_take (i := 5) (v := .tuple #[.agg (ccells X).toArray, .agg (ccells Y).toArray, .int .i64 c]) rfl (by kernel_rfl) (by kernel_rfl) (by kernel_rfl) (fun _ _ _ ⟨_, _, h, _⟩ => nomatch h) (Or.inl ⟨by rfl, fun w _ => by go_simp⟩) (by assumption) ?_
        try simp only [Act.put, zA, zB, zC, zD, zE, zF]
        refine wpAnyH_take (i := 6) (v := .agg (ccells X).toArray) rfl (by kernel_rfl) (by kernel_rfl) (by kernel_rfl) (fun _ _ _ ⟨_, _, h, _⟩ => nomatch h) (Or.inl ⟨by rfl, fun w _ => by go_simp⟩) (by assumption) ?_
        try simp only [Act.put, zA, zB, zC, zD, zE, zF]
        refine wpAnyH_take (i := 7) (v := .agg (ccells Y).toArray) rfl (by kernel_rfl) (by kernel_rfl) (by kernel_rfl) (fun _ _ _ ⟨_, _, h, _⟩ => nomatch h) (Or.inl ⟨by rfl, fun w _ => by go_simp⟩) (by assumption) ?_
        try simp only [Act.put, zA, zB, zC, zD, zE, zF]
        refine wpAnyH_take (i := 8) (v := .int .i64 c) rfl (by kernel_rfl) (by kernel_rfl) (by kernel_rfl) (fun _ _ _ ⟨_, _, h, _⟩ => nomatch h) (Or.inl ⟨by rfl, fun w _ => by go_simp⟩) (by assumption) ?_
        try simp only [Act.put, zA, zB, zC, zD, zE, zF]
        refine wpAnyH_ready (rs := [10]) (by kernel_rfl) (by simp) ?_
        refine AllReadyH.cons rfl (fun K hK => ?_) AllReadyH.nil
        refine if_wanted rfl ?_
        go_simp
        have bn : CBlk (x20.alloc (.cells #[.int .u8 0, .int .i16 0, .int .u8 0, .int .i16 0, .int .u8 0, .int .i16 0, .int .u8 0, .int .i16 0, .int .u8 0, .int .i16 0, .int .u8 0, .int .i16 0, .int .u8 0, .int .i16 0, .int .u8 0, .int .i16 0, .int .u8 0, .int .i16 0, .int .u8 0, .int .i16 0, .int .u8 0, .int .i16 0, .int .u8 0, .int .i16 0] 31)) x20.heap.size 31 noB := CBlk.new' rfl rfl
        have hn : w1.heap.size ≤ x20.heap.size := hHeld.size
        have hH2 : Below w1.heap.size w1 (x20.alloc (.cells #[.int .u8 0, .int .i16 0, .int .u8 0, .int .i16 0, .int .u8 0, .int .i16 0, .int .u8 0, .int .i16 0, .int .u8 0, .int .i16 0, .int .u8 0, .int .i16 0, .int .u8 0, .int .i16 0, .int .u8 0, .int .i16 0, .int .u8 0, .int .i16 0, .int .u8 0, .int .i16 0, .int .u8 0, .int .i16 0, .int .u8 0, .int .i16 0] 31)) := hHeld.alloc hHeld.size _
        have C9 : Hid (CBlk (x20.alloc (.cells #[.int .u8 0, .int .i16 0, .int .u8 0, .int .i16 0, .int .u8 0, .int .i16 0, .int .u8 0, .int .i16 0, .int .u8 0, .int .i16 0, .int .u8 0, .int .i16 0, .int .u8 0, .int .i16 0, .int .u8 0, .int .i16 0, .int .u8 0, .int .i16 0, .int .u8 0, .int .i16 0, .int .u8 0, .int .i16 0, .int .u8 0, .int .i16 0] 31)) N9 31 noB) := B9.out.alloc _
        have hNE0 : N9 < x20.heap.size := B9.out.lt
        clear B9
        obtain ⟨x21, hx⟩ : ∃ x, x20.alloc (.cells #[.int .u8 0, .int .i16 0, .int .u8 0, .int .i16 0, .int .u8 0, .int .i16 0, .int .u8 0, .int .i16 0, .int .u8 0, .int .i16 0, .int .u8 0, .int .i16 0, .int .u8 0, .int .i16 0, .int .u8 0, .int .i16 0, .int .u8 0, .int .i16 0, .int .u8 0, .int .i16 0, .int .u8 0, .int .i16 0, .int .u8 0, .int .i16 0] 31) = x := ⟨_, rfl⟩
        obtain ⟨N10, hN⟩ : ∃ N, x20.heap.size = N := ⟨_, rfl⟩
        rw [hx] at hH2 bn C9 ⊢
        rw [hN] at hn bn hNE0 ⊢
        have B9 := C9
        clear C9
        have hNE := Lib.hid hNE0
        clear hNE0
        have B10 := Lib.hid bn
        have H10 := Lib.hid hn
        clear bn hn hx hN hHeld
        refine hK.out _ _ hH2 (fun hHeld => ?_)
        clear hK K hH2
        try simp only [Act.put, zA, zB, zC, zD, zE, zF]
        have HNE : Hid (N9 ≠ N10) := by have := hNE.out; show N9 ≠ N10; omega
        refine wpAnyH_ready (rs := [11]) (by kernel_rfl) (by simp) ?_
        refine AllReadyH.cons rfl (fun K hK => ?_) AllReadyH.nil
        refine if_wanted rfl (wp_store_row 31 (.tmp 8) (.tmp 26) rfl N9 (ccells X).toArray rfl rfl 31 _ B9.out (size_of_crate Tryd.sizeCr _ HX.out.1) (by show (ccells noB).toArray.size = _; rw [ccells_size _ HX.out.1]; rfl) (ccells_one _) ?_)
        refine hK.out _ _ (Below.setRow hHeld _ _ H9.out) (fun hHeld => ?_)
        clear hK K
        try simp only [Act.put, zA, zB, zC]
        refine wpAnyH_ready (rs := [12]) (by kernel_rfl) (by simp) ?_
        refine AllReadyH.cons rfl (fun K hK => ?_) AllReadyH.nil
        refine if_wanted rfl (wp_store_row 31 (.tmp 9) (.tmp 27) rfl N10 (ccells Y).toArray rfl rfl 31 _ (B10.out.rowOff (fun e => HNE.out e.symm) _) (size_of_crate Tryd.sizeCr _ HY.out.1) (by show (ccells noB).toArray.size = _; rw [ccells_size _ HY.out.1]; rfl) (ccells_one _) ?_)
        refine hK.out _ _ (Below.setRow hHeld _ _ H10.out) (fun hHeld => ?_)
        clear hK K
        try simp only [Act.put, zA, zB, zC]
        refine wpAnyH_ready (rs := [13]) (by kernel_rfl) (by simp) ?_
        refine AllReadyH.cons rfl (fun K hK => ?_) AllReadyH.nil
        refine if_wanted rfl ?_
        refine wp_assign0 rfl rfl ?_
        refine hK.out _ _ hHeld (fun hHeld => ?_)
        clear hK K
        try simp only [Act.put, zA, zB, zC, zD, zE, zF]
        exact wpAnyH_done (by kernel_rfl) ⟨N9, N10, rfl, rfl, (CBlk.setRow (Y := X) B9.out).rowOff HNE.out _, CBlk.setRow (Y := Y) (B10.out.rowOff (fun e => HNE.out e.symm) _), hHeld⟩ _
       refine AllReadyH.cons rfl (fun K hK => ?_) AllReadyH.nil
       refine if_wanted rfl ?_
       go_simp
       have bn : CBlk (x19.alloc (.cells #[.int .u8 0, .int .i16 0, .int .u8 0, .int .i16 0, .int .u8 0, .int .i16 0, .int .u8 0, .int .i16 0, .int .u8 0, .int .i16 0, .int .u8 0, .int .i16 0, .int .u8 0, .int .i16 0, .int .u8 0, .int .i16 0, .int .u8 0, .int .i16 0, .int .u8 0, .int .i16 0, .int .u8 0, .int .i16 0, .int .u8 0, .int .i16 0] 31)) x19.heap.size 31 noB := CBlk.new' rfl rfl
       have hn : w1.heap.size ≤ x19.heap.size := hHeld.size
       have hH2 : Below w1.heap.size w1 (x19.alloc (.cells #[.int .u8 0, .int .i16 0, .int .u8 0, .int .i16 0, .int .u8 0, .int .i16 0, .int .u8 0, .int .i16 0, .int .u8 0, .int .i16 0, .int .u8 0, .int .i16 0, .int .u8 0, .int .i16 0, .int .u8 0, .int .i16 0, .int .u8 0, .int .i16 0, .int .u8 0, .int .i16 0, .int .u8 0, .int .i16 0, .int .u8 0, .int .i16 0] 31)) := hHeld.alloc hHeld.size _
       have C9 : Hid (CBlk (x19.alloc (.cells #[.int .u8 0, .int .i16 0, .int .u8 0, .int .i16 0, .int .u8 0, .int .i16 0, .int .u8 0, .int .i16 0, .int .u8 0, .int .i16 0, .int .u8 0, .int .i16 0, .int .u8 0, .int .i16 0, .int .u8 0, .int .i16 0, .int .u8 0, .int .i16 0, .int .u8 0, .int .i16 0, .int .u8 0, .int .i16 0, .int .u8 0, .int .i16 0] 31)) N9 31 noB) := B9.out.alloc _
       have hNE0 : N9 < x19.heap.size := B9.out.lt
       clear B9
       obtain ⟨x22, hx⟩ : ∃ x, x19.alloc (.cells #[.int .u8 0, .int .i16 0, .int .u8 0, .int .i16 0, .int .u8 0, .int .i16 0, .int .u8 0, .int .i16 0, .int .u8 0, .int .i16 0, .int .u8 0, .int .i16 0, .int .u8 0, .int .i16 0, .int .u8 0, .int .i16 0, .int .u8 0, .int .i16 0, .int .u8 0, .int .i16 0, .int .u8 0, .int .i16 0, .int .u8 0, .int .i16 0] 31) = x := ⟨_, rfl⟩
       obtain ⟨N10, hN⟩ : ∃ N, x19.heap.size = N := ⟨_, rfl⟩
       rw [hx] at hH2 bn C9 ⊢
       rw [hN] at hn bn hNE0 ⊢
       have B9 := C9
       clear C9
       have hNE := Lib.hid hNE0
       clear hNE0
       have B10 := Lib.hid bn
       have H10 := Lib.hid hn
       clear bn hn hx hN hHeld
       refine hK.out _ _ hH2 (fun hHeld => ?_)
       clear hK K hH2
       try simp only [Act.put, zA, zB, zC, zD, zE, zF]
       refine wpAnyH_ready (rs := [4]) (by kernel_rfl) (by simp) ?_
       refine AllReadyH.cons rfl (fun K hK => ?_) AllReadyH.nil
       refine if_wanted rfl ?_
       go_simp
       refine (HI.out ad _ (HE.out.below (I3.out.trans (hHeld.mono I3.out.size)) (Nat.le_refl _))).mono ?_
       rintro e x23 ⟨rfl, hb⟩
       have hH2 : Below w1.heap.size w1 x23 := hHeld.trans (hb.mono hHeld.size)
       have C9 : Hid (CBlk x23 N9 31 noB) := B9.out.below hb B9.out.lt
       clear B9
       have B9 := C9
       clear C9
       have C10 : Hid (CBlk x23 N10 31 noB) := B10.out.below hb B10.out.lt
       clear B10
       have B10 := C10
       clear C10
       clear hb hHeld
       dsimp only
       refine hK.out _ _ hH2 (fun hHeld => ?_)
       clear hK K hH2
       try simp only [Act.put, zA, zB, zC, zD, zE, zF]
       refine wpAnyH_take (i := 5) (v := .tuple #[.agg (ccells X).toArray, .agg (ccells Y).toArray, .int .i64 c]) rfl (by kernel_rfl) (by kernel_rfl) (by kernel_rfl) (fun _ _ _ ⟨_, _, h, _⟩ => nomatch h) (Or.inl ⟨by rfl, fun w _ => by go_simp⟩) (by assumption) ?_
       try simp only [Act.put, zA, zB, zC, zD, zE, zF]
       refine wpAnyH_take (i := 6) (v := .agg (ccells X).toArray) rfl (by kernel_rfl) (by kernel_rfl) (by kernel_rfl) (fun _ _ _ ⟨_, _, h, _⟩ => nomatch h) (Or.inl ⟨by rfl, fun w _ => by go_simp⟩) (by assumption) ?_
       try simp only [Act.put, zA, zB, zC, zD, zE, zF]
       refine wpAnyH_take (i := 7) (v := .agg (ccells Y).toArray) rfl (by kernel_rfl) (by kernel_rfl) (by kernel_rfl) (fun _ _ _ ⟨_, _, h, _⟩ => nomatch h) (Or.inl ⟨by rfl, fun w _ => by go_simp⟩) (by assumption) ?_
       try simp only [Act.put, zA, zB, zC, zD, zE, zF]
       refine wpAnyH_take (i := 8) (v := .int .i64 c) rfl (by kernel_rfl) (by kernel_rfl) (by kernel_rfl) (fun _ _ _ ⟨_, _, h, _⟩ => nomatch h) (Or.inl ⟨by rfl, fun w _ => by go_simp⟩) (by assumption) ?_
       try simp only [Act.put, zA, zB, zC, zD, zE, zF]
       have HNE : Hid (N9 ≠ N10) := by have := hNE.out; show N9 ≠ N10; omega
       refine wpAnyH_ready (rs := [11]) (by kernel_rfl) (by simp) ?_
       refine AllReadyH.cons rfl (fun K hK => ?_) AllReadyH.nil
       refine if_wanted rfl (wp_store_row 31 (.tmp 8) (.tmp 26) rfl N9 (ccells X).toArray rfl rfl 31 _ B9.out (size_of_crate Tryd.sizeCr _ HX.out.1) (by show (ccells noB).toArray.size = _; rw [ccells_size _ HX.out.1]; rfl) (ccells_one _) ?_)
       refine hK.out _ _ (Below.setRow hHeld _ _ H9.out) (fun hHeld => ?_)
       clear hK K
       try simp only [Act.put, zA, zB, zC]
       refine wpAnyH_ready (rs := [12]) (by kernel_rfl) (by simp) ?_
       refine AllReadyH.cons rfl (fun K hK => ?_) AllReadyH.nil
       refine if_wanted rfl (wp_store_row 31 (.tmp 9) (.tmp 27) rfl N10 (ccells Y).toArray rfl rfl 31 _ (B10.out.rowOff (fun e => HNE.out e.symm) _) (size_of_crate Tryd.sizeCr _ HY.out.1) (by show (ccells noB).toArray.size = _; rw [ccells_size _ HY.out.1]; rfl) (ccells_one _) ?_)
       refine hK.out _ _ (Below.setRow hHeld _ _ H10.out) (fun hHeld => ?_)
       clear hK K
       try simp only [Act.put, zA, zB, zC]
       refine wpAnyH_ready (rs := [13]) (by kernel_rfl) (by simp) ?_
       refine AllReadyH.cons rfl (fun K hK => ?_) AllReadyH.nil
       refine if_wanted rfl ?_
       refine wp_assign0 rfl rfl ?_
       refine hK.out _ _ hHeld (fun hHeld => ?_)
       clear hK K
       try simp only [Act.put, zA, zB, zC, zD, zE, zF]
       exact wpAnyH_done (by kernel_rfl) ⟨N9, N10, rfl, rfl, (CBlk.setRow (Y := X) B9.out).rowOff HNE.out _, CBlk.setRow (Y := Y) (B10.out.rowOff (fun e => HNE.out e.symm) _), hHeld⟩ _
      refine AllReadyH.cons rfl (fun K hK => ?_) AllReadyH.nil
      refine if_wanted rfl ?_
      go_simp
      have bn : CBlk (x18.alloc (.cells #[.int .u8 0, .int .i16 0, .int .u8 0, .int .i16 0, .int .u8 0, .int .i16 0, .int .u8 0, .int .i16 0, .int .u8 0, .int .i16 0, .int .u8 0, .int .i16 0, .int .u8 0, .int .i16 0, .int .u8 0, .int .i16 0, .int .u8 0, .int .i16 0, .int .u8 0, .int .i16 0, .int .u8 0, .int .i16 0, .int .u8 0, .int .i16 0] 31)) x18.heap.size 31 noB := CBlk.new' rfl rfl
      have hn : w1.heap.size ≤ x18.heap.size := hHeld.size
      have hH2 : Below w1.heap.size w1 (x18.alloc (.cells #[.int .u8 0, .int .i16 0, .int .u8 0, .int .i16 0, .int .u8 0, .int .i16 0, .int .u8 0, .int .i16 0, .int .u8 0, .int .i16 0, .int .u8 0, .int .i16 0, .int .u8 0, .int .i16 0, .int .u8 0, .int .i16 0, .int .u8 0, .int .i16 0, .int .u8 0, .int .i16 0, .int .u8 0, .int .i16 0, .int .u8 0, .int .i16 0] 31)) := hHeld.alloc hHeld.size _
      have C9 : Hid (CBlk (x18.alloc (.cells #[.int .u8 0, .int .i16 0, .int .u8 0, .int .i16 0, .int .u8 0, .int .i16 0, .int .u8 0, .int .i16 0, .int .u8 0, .int .i16 0, .int .u8 0, .int .i16 0, .int .u8 0, .int .i16 0, .int .u8 0, .int .i16 0, .int .u8 0, .int .i16 0, .int .u8 0, .int .i16 0, .int .u8 0, .int .i16 0, .int .u8 0, .int .i16 0] 31)) N9 31 noB) := B9.out.alloc _
      have hNE0 : N9 < x18.heap.size := B9.out.lt
      clear B9
      obtain ⟨x24, hx⟩ : ∃ x, x18.alloc (.cells #[.int .u8 0, .int .i16 0, .int .u8 0, .int .i16 0, .int .u8 0, .int .i16 0, .int .u8 0, .int .i16 0, .int .u8 0, .int .i16 0, .int .u8 0, .int .i16 0, .int .u8 0, .int .i16 0, .int .u8 0, .int .i16 0, .int .u8 0, .int .i16 0, .int .u8 0, .int .i16 0, .int .u8 0, .int .i16 0, .int .u8 0, .int .i16 0] 31) = x := ⟨_, rfl⟩
      obtain ⟨N10, hN⟩ : ∃ N, x18.heap.size = N := ⟨_, rfl⟩
      rw [hx] at hH2 bn C9 ⊢
      rw [hN] at hn bn hNE0 ⊢
      have B9 := C9
      clear C9
      have hNE := Lib.hid hNE0
      clear hNE0
      have B10 := Lib.hid bn
      have H10 := Lib.hid hn
      clear bn hn hx hN hHeld
      refine hK.out _ _ hH2 (fun hHeld => ?_)
      clear hK K hH2
      try simp only [Act.put, zA, zB, zC, zD, zE, zF]
      refine wpAnyH_ready (rs := [3]) (by kernel_rfl) (by simp) ?_
      refine AllReadyH.cons rfl (fun K hK => ?_) AllReadyH.nil
      refine if_wanted rfl ?_
      go_simp
      refine (toCrate_any b HB.out.1 _).mono ?_
      rintro e x25 ⟨rfl, hb⟩
      have hH2 : Below w1.heap.size w1 x25 := hHeld.trans (hb.mono hHeld.size)
      have C9 : Hid (CBlk x25 N9 31 noB) := B9.out.below hb B9.out.lt
      clear B9
      have B9 := C9
      clear C9
      have C10 : Hid (CBlk x25 N10 31 noB) := B10.out.below hb B10.out.lt
      clear B10
      have B10 := C10
      clear C10
      clear hb hHeld
      dsimp only
      refine hK.out _ _ hH2 (fun hHeld => ?_)
      clear hK K hH2
      try simp only [Act.put, zA, zB, zC, zD, zE, zF]
      refine wpAnyH_ready (rs := [4]) (by kernel_rfl) (by simp) ?_
      refine AllReadyH.cons rfl (fun K hK => ?_) AllReadyH.nil
      refine if_wanted rfl ?_
      go_simp
      refine (HI.out ad _ (HE.out.below (I3.out.trans (hHeld.mono I3.out.size)) (Nat.le_refl _))).mono ?_
      rintro e x26 ⟨rfl, hb⟩
      have hH2 : Below w1.heap.size w1 x26 := hHeld.trans (hb.mono hHeld.size)
      have C9 : Hid (CBlk x26 N9 31 noB) := B9.out.below hb B9.out.lt
      clear B9
      have B9 := C9
      clear C9
      have C10 : Hid (CBlk x26 N10 31 noB) := B10.out.below hb B10.out.lt
      clear B10
      have B10 := C10
      clear C10
      clear hb hHeld
      dsimp only
      refine hK.out _ _ hH2 (fun hHeld => ?_)
      clear hK K hH2
      try simp only [Act.put, zA, zB, zC, zD, zE, zF]
      refine wpAnyH_take (i := 5) (v := .tuple #[.agg (ccells X).toArray, .agg (ccells Y).toArray, .int .i64 c]) rfl (by kernel_rfl) (by kernel_rfl) (by kernel_rfl) (fun _ _ _ ⟨_, _, h, _⟩ => nomatch h) (Or.inl ⟨by rfl, fun w _ => by go_simp⟩) (by assumption) ?_
      try simp only [Act.put, zA, zB, zC, zD, zE, zF]
      refine wpAnyH_take (i := 6) (v := .agg (ccells X).toArray) rfl (by kernel_rfl) (by kernel_rfl) (by kernel_rfl) (fun _ _ _ ⟨_, _, h, _⟩ => nomatch h) (Or.inl ⟨by rfl, fun w _ => by go_simp⟩) (by assumption) ?_
      try simp only [Act.put, zA, zB, zC, zD, zE, zF]
      refine wpAnyH_take (i := 7) (v := .agg (ccells Y).toArray) rfl (by kernel_rfl) (by kernel_rfl) (by kernel_rfl) (fun _ _ _ ⟨_, _, h, _⟩ => nomatch h) (Or.inl ⟨by rfl, fun w _ => by go_simp⟩) (by assumption) ?_
      try simp only [Act.put, zA, zB, zC, zD, zE, zF]
      refine wpAnyH_take (i := 8) (v := .int .i64 c) rfl (by kernel_rfl) (by kernel_rfl) (by kernel_rfl) (fun _ _ _ ⟨_, _, h, _⟩ => nomatch h) (Or.inl ⟨by rfl, fun w _ => by go_simp⟩) (by assumption) ?_
      try simp only [Act.put, zA, zB, zC, zD, zE, zF]
      have HNE : Hid (N9 ≠ N10) := by have := hNE.out; show N9 ≠ N10; omega
      refine wpAnyH_ready (rs := [11]) (by kernel_rfl) (by simp) ?_
      refine AllReadyH.cons rfl (fun K hK => ?_) AllReadyH.nil
      refine if_wanted rfl (wp_store_row 31 (.tmp 8) (.tmp 26) rfl N9 (ccells X).toArray rfl rfl 31 _ B9.out (size_of_crate Tryd.sizeCr _ HX.out.1) (by show (ccells noB).toArray.size = _; rw [ccells_size _ HX.out.1]; rfl) (ccells_one _) ?_)
      refine hK.out _ _ (Below.setRow hHeld _ _ H9.out) (fun hHeld => ?_)
      clear hK K
      try simp only [Act.put, zA, zB, zC]
      refine wpAnyH_ready (rs := [12]) (by kernel_rfl) (by simp) ?_
      refine AllReadyH.cons rfl (fun K hK => ?_) AllReadyH.nil
      refine if_wanted rfl (wp_store_row 31 (.tmp 9) (.tmp 27) rfl N10 (ccells Y).toArray rfl rfl 31 _ (B10.out.rowOff (fun e => HNE.out e.symm) _) (size_of_crate Tryd.sizeCr _ HY.out.1) (by show (ccells noB).toArray.size = _; rw [ccells_size _ HY.out.1]; rfl) (ccells_one _) ?_)
      refine hK.out _ _ (Below.setRow hHeld _ _ H10.out) (fun hHeld => ?_)
      clear hK K
      try simp only [Act.put, zA, zB, zC]
      refine wpAnyH_ready (rs := [13]) (by kernel_rfl) (by simp) ?_
      refine AllReadyH.cons rfl (fun K hK => ?_) AllReadyH.nil
      refine if_wanted rfl ?_
      refine wp_assign0 rfl rfl ?_
      refine hK.out _ _ hHeld (fun hHeld => ?_)
      clear hK K
      try simp only [Act.put, zA, zB, zC, zD, zE, zF]
      exact wpAnyH_done (by kernel_rfl) ⟨N9, N10, rfl, rfl, (CBlk.setRow (Y := X) B9.out).rowOff HNE.out _, CBlk.setRow (Y := Y) (B10.out.rowOff (fun e => HNE.out e.symm) _), hHeld⟩ _
     refine AllReadyH.cons rfl (fun K hK => ?_) AllReadyH.nil
     refine if_wanted rfl ?_
     go_simp
     have bn : CBlk (x1.alloc (.cells #[.int .u8 0, .int .i16 0, .int .u8 0, .int .i16 0, .int .u8 0, .int .i16 0, .int .u8 0, .int .i16 0, .int .u8 0, .int .i16 0, .int .u8 0, .int .i16 0, .int .u8 0, .int .i16 0, .int .u8 0, .int .i16 0, .int .u8 0, .int .i16 0, .int .u8 0, .int .i16 0, .int .u8 0, .int .i16 0, .int .u8 0, .int .i16 0] 31)) x1.heap.size 31 noB := CBlk.new' rfl rfl
     have hn : w1.heap.size ≤ x1.heap.size := hHeld.size
     have hH2 : Below w1.heap.size w1 (x1.alloc (.cells #[.int .u8 0, .int .i16 0, .int .u8 0, .int .i16 0, .int .u8 0, .int .i16 0, .int .u8 0, .int .i16 0, .int .u8 0, .int .i16 0, .int .u8 0, .int .i16 0, .int .u8 0, .int .i16 0, .int .u8 0, .int .i16 0, .int .u8 0, .int .i16 0, .int .u8 0, .int .i16 0, .int .u8 0, .int .i16 0, .int .u8 0, .int .i16 0] 31)) := hHeld.alloc hHeld.size _
     obtain ⟨x27, hx⟩ : ∃ x, x1.alloc (.cells #[.int .u8 0, .int .i16 0, .int .u8 0, .int .i16 0, .int .u8 0, .int .i16 0, .int .u8 0, .int .i16 0, .int .u8 0, .int .i16 0, .int .u8 0, .int .i16 0, .int .u8 0, .int .i16 0, .int .u8 0, .int .i16 0, .int .u8 0, .int .i16 0, .int .u8 0, .int .i16 0, .int .u8 0, .int .i16 0, .int .u8 0, .int .i16 0] 31) = x := ⟨_, rfl⟩
     obtain ⟨N10, hN⟩ : ∃ N, x1.heap.size = N := ⟨_, rfl⟩
     rw [hx] at hH2 bn ⊢
     rw [hN] at hn bn ⊢
     have B10 := Lib.hid bn
     have H10 := Lib.hid hn
     clear bn hn hx hN hHeld
     refine hK.out _ _ hH2 (fun hHeld => ?_)
     clear hK K hH2
     try simp only [Act.put, zA, zB, zC, zD, zE, zF]
     refine wpAnyH_ready (rs := [3, 9]) (by kernel_rfl) (by simp) ?_
     refine AllReadyH.cons rfl (fun K hK => ?_) ?_
     ·skip
      refine if_wanted rfl ?_
      go_simp
      refine (toCrate_any b HB.out.1 _).mono ?_
      rintro e x28 ⟨rfl, hb⟩
      have hH2 : Below w1.heap.size w1 x28 := hHeld.trans (hb.mono hHeld.size)
      have C10 : Hid (CBlk x28 N10 31 noB) := B10.out.below hb B10.out.lt
      clear B10
      have B10 := C10
      clear C10
      clear hb hHeld
      dsimp only
      refine hK.out _ _ hH2 (fun hHeld => ?_)
      clear hK K hH2
      try simp only [Act.put, zA, zB, zC, zD, zE, zF]
      refine wpAnyH_ready (rs := [4, 9]) (by kernel_rfl) (by simp) ?_
      refine AllReadyH.cons rfl (fun K hK => ?_) ?_
      ·skip
       refine if_wanted rfl ?_
       go_simp
       refine (HI.out ad _ (HE.out.below (I3.out.trans (hHeld.mono I3.out.size)) (Nat.le_refl _))).mono ?_
       rintro e x29 ⟨rfl, hb⟩
       have hH2 : Below w1.heap.size w1 x29 := hHeld.trans (hb.mono hHeld.size)
       have C10 : Hid (CBlk x29 N10 31 noB) := B10.out.below hb B10.out.lt
       clear B10
       have B10 := C10
       clear C10
       clear hb hHeld
       dsimp only
       refine hK.out _ _ hH2 (fun hHeld => ?_)
       clear hK K hH2
       try simp only [Act.put, zA, zB, zC, zD, zE, zF]
       refine wpAnyH_take (i := 5) (v := .tuple #[.agg (ccells X).toArray, .agg (ccells Y).toArray, .int .i64 c]) rfl (by kernel_rfl) (by kernel_rfl) (by kernel_rfl) (fun _ _ _ ⟨_, _, h, _⟩ => nomatch h) (Or.inl ⟨by rfl, fun w _ => by go_simp⟩) (by assumption) ?_
       try simp only [Act.put, zA, zB, zC, zD, zE, zF]
       refine wpAnyH_take (i := 6) (v := .agg (ccells X).toArray) rfl (by kernel_rfl) (by kernel_rfl) (by kernel_rfl) (fun _ _ _ ⟨_, _, h, _⟩ => nomatch h) (Or.inl ⟨by rfl, fun w _ => by go_simp⟩) (by assumption) ?_
       try simp only [Act.put, zA, zB, zC, zD, zE, zF]
       refine wpAnyH_take (i := 7) (v := .agg (ccells Y).toArray) rfl (by kernel_rfl) (by kernel_rfl) (by kernel_rfl) (fun _ _ _ ⟨_, _, h, _⟩ => nomatch h) (Or.inl ⟨by rfl, fun w _ => by go_simp⟩) (by assumption) ?_
       try simp only [Act.put, zA, zB, zC, zD, zE, zF]
       refine wpAnyH_take (i := 8) (v := .int .i64 c) rfl (by kernel_rfl) (by kernel_rfl) (by kernel_rfl) (fun _ _ _ ⟨_, _, h, _⟩ => nomatch h) (Or.inl ⟨by rfl, fun w _ => by go_simp⟩) (by assumption) ?_
       try simp only [Act.put, zA, zB, zC, zD, zE, zF]
       refine wpAnyH_ready (rs := [9]) (by kernel_rfl) (by simp) ?_
       refine AllReadyH.cons rfl (fun K hK => ?_) AllReadyH.nil
       refine if_wanted rfl ?_
       go_simp
       have bn : CBlk (x29.alloc (.cells #[.int .u8 0, .int .i16 0, .int .u8 0, .int .i16 0, .int .u8 0, .int .i16 0, .int .u8 0, .int .i16 0, .int .u8 0, .int .i16 0, .int .u8 0, .int .i16 0, .int .u8 0, .int .i16 0, .int .u8 0, .int .i16 0, .int .u8 0, .int .i16 0, .int .u8 0, .int .i16 0, .int .u8 0, .int .i16 0, .int .u8 0, .int .i16 0] 31)) x29.heap.size 31 noB := CBlk.new' rfl rfl
       have hn : w1.heap.size ≤ x29.heap.size := hHeld.size
       have hH2 : Below w1.heap.size w1 (x29.alloc (.cells #[.int .u8 0, .int .i16 0, .int .u8 0, .int .i16 0, .int .u8 0, .int .i16 0, .int .u8 0, .int .i16 0, .int .u8 0, .int .i16 0, .int .u8 0, .int .i16 0, .int .u8 0, .int .i16 0, .int .u8 0, .int .i16 0, .int .u8 0, .int .i16 0, .int .u8 0, .int .i16 0, .int .u8 0, .int .i16 0, .int .u8 0, .int .i16 0] 31)) := hHeld.alloc hHeld.size _
       have C10 : Hid (CBlk (x29.alloc (.cells #[.int .u8 0, .int .i16 0, .int .u8 0, .int .i16 0, .int .u8 0, .int .i16 0, .int .u8 0, .int .i16 0, .int .u8 0, .int .i16 0, .int .u8 0, .int .i16 0, .int .u8 0, .int .i16 0, .int .u8 0, .int .i16 0, .int .u8 0, .int .i16 0, .int .u8 0, .int .i16 0, .int .u8 0, .int .i16 0, .int .u8 0, .int .i16 0] 31)) N10 31 noB) := B10.out.alloc _
       have hNE0 : N10 < x29.heap.size := B10.out.lt
       clear B10
       obtain ⟨x30, hx⟩ : ∃ x, x29.alloc (.cells #[.int .u8 0, .int .i16 0, .int .u8 0, .int .i16 0, .int .u8 0, .int .i16 0, .int .u8 0, .int .i16 0, .int .u8 0, .int .i16 0, .int .u8 0, .int .i16 0, .int .u8 0, .int .i16 0, .int .u8 0, .int .i16 0, .int .u8 0, .int .i16 0, .int .u8 0, .int .i16 0, .int .u8 0, .int .i16 0, .int .u8 0, .int .i16 0] 31) = x := ⟨_, rfl⟩
       obtain ⟨N9, hN⟩ : ∃ N, x29.heap.size = N := ⟨_, rfl⟩
       rw [hx] at hH2 bn C10 ⊢
       rw [hN] at hn bn hNE0 ⊢
       have B10 := C10
       clear C10
       have hNE := Lib.hid hNE0
       clear hNE0
       have B9 := Lib.hid bn
       have H9 := Lib.hid hn
       clear bn hn hx hN hHeld
       refine hK.out _ _ hH2 (fun hHeld => ?_)
       clear hK K hH2
       try simp only [Act.put, zA, zB, zC, zD, zE, zF]
       have HNE : Hid (N9 ≠ N10) := by have := hNE.out; show N9 ≠ N10; omega
       refine wpAnyH_ready (rs := [11]) (by kernel_rfl) (by simp) ?_
       refine AllReadyH.cons rfl (fun K hK => ?_) AllReadyH.nil
       refine if_wanted rfl (wp_store_row 31 (.tmp 8) (.tmp 26) rfl N9 (ccells X).toArray rfl rfl 31 _ B9.out (size_of_crate Tryd.sizeCr _ HX.out.1) (by show (ccells noB).toArray.size = _; rw [ccells_size _ HX.out.1]; rfl) (ccells_one _) ?_)
       refine hK.out _ _ (Below.setRow hHeld _ _ H9.out) (fun hHeld => ?_)
       clear hK K
       try simp only [Act.put, zA, zB, zC]
       refine wpAnyH_ready (rs := [12]) (by kernel_rfl) (by simp) ?_
       refine AllReadyH.cons rfl (fun K hK => ?_) AllReadyH.nil
       refine if_wanted rfl (wp_store_row 31 (.tmp 9) (.tmp 27) rfl N10 (ccells Y).toArray rfl rfl 31 _ (B10.out.rowOff (fun e => HNE.out e.symm) _) (size_of_crate Tryd.sizeCr _ HY.out.1) (by show (ccells noB).toArray.size = _; rw [ccells_size _ HY.out.1]; rfl) (ccells_one _) ?_)
       refine hK.out _ _ (Below.setRow hHeld _ _ H10.out) (fun hHeld => ?_)
       clear hK K
       try simp only [Act.put, zA, zB, zC]
       refine wpAnyH_ready (rs := [13]) (by kernel_rfl) (by simp) ?_
       refine AllReadyH.cons rfl (fun K hK => ?_) AllReadyH.nil
       refine if_wanted rfl ?_
       refine wp_assign0 rfl rfl ?_
       refine hK.out _ _ hHeld (fun hHeld => ?_)
       clear hK K
       try simp only [Act.put, zA, zB, zC, zD, zE, zF]
       exact wpAnyH_done (by kernel_rfl) ⟨N9, N10, rfl, rfl, (CBlk.setRow (Y := X) B9.out).rowOff HNE.out _, CBlk.setRow (Y := Y) (B10.out.rowOff (fun e => HNE.out e.symm) _), hHeld⟩ _
      refine AllReadyH.cons rfl (fun K hK => ?_) AllReadyH.nil
      refine if_wanted rfl ?_
      go_simp
      have bn : CBlk (x28.alloc (.cells #[.int .u8 0, .int .i16 0, .int .u8 0, .int .i16 0, .int .u8 0, .int .i16 0, .int .u8 0, .int .i16 0, .int .u8 0, .int .i16 0, .int .u8 0, .int .i16 0, .int .u8 0, .int .i16 0, .int .u8 0, .int .i16 0, .int .u8 0, .int .i16 0, .int .u8 0, .int .i16 0, .int .u8 0, .int .i16 0, .int .u8 0, .int .i16 0] 31)) x28.heap.size 31 noB := CBlk.new' rfl rfl
      have hn : w1.heap.size ≤ x28.heap.size := hHeld.size
      have hH2 : Below w1.heap.size w1 (x28.alloc (.cells #[.int .u8 0, .int .i16 0, .int .u8 0, .int .i16 0, .int .u8 0, .int .i16 0, .int .u8 0, .int .i16 0, .int .u8 0, .int .i16 0, .int .u8 0, .int .i16 0, .int .u8 0, .int .i16 0, .int .u8 0, .int .i16 0, .int .u8 0, .int .i16 0, .int .u8 0, .int .i16 0, .int .u8 0, .int .i16 0, .int .u8 0, .int .i16 0] 31)) := hHeld.alloc hHeld.size _
      have C10 : Hid (CBlk (x28.alloc (.cells #[.int .u8 0, .int .i16 0, .int .u8 0, .int .i16 0, .int .u8 0, .int .i16 0, .int .u8 0, .int .i16 0, .int .u8 0, .int .i16 0, .int .u8 0, .int .i16 0, .int .u8 0, .int .i16 0, .int .u8 0, .int .i16 0, .int .u8 0, .int .i16 0, .int .u8 0, .int .i16 0, .int .u8 0, .int .i16 0, .int .u8 0, .int .i16 0] 31)) N10 31 noB) := B10.out.alloc _
      have hNE0 : N10 < x28.heap.size := B10.out.lt
      clear B10
      obtain ⟨x31, hx⟩ : ∃ x, x28.alloc (.cells #[.int .u8 0, .int .i16 0, .int .u8 0, .int .i16 0, .int .u8 0, .int .i16 0, .int .u8 0, .int .i16 0, .int .u8 0, .int .i16 0, .int .u8 0, .int .i16 0, .int .u8 0, .int .i16 0, .int .u8 0, .int .i16 0, .int .u8 0, .int .i16 0, .int .u8 0, .int .i16 0, .int .u8 0, .int .i16 0, .int .u8 0, .int .i16 0] 31) = x := ⟨_, rfl⟩
      obtain ⟨N9, hN⟩ : ∃ N, x28.heap.size = N := ⟨_, rfl⟩
      rw [hx] at hH2 bn C10 ⊢
      rw [hN] at hn bn hNE0 ⊢
      have B10 := C10
      clear C10
      have hNE := Lib.hid hNE0
      clear hNE0
      have B9 := Lib.hid bn
      have H9 := Lib.hid hn
      clear bn hn hx hN hHeld
      refine hK.out _ _ hH2 (fun hHeld => ?_)
      clear hK K hH2
      try simp only [Act.put, zA, zB, zC, zD, zE, zF]
      refine wpAnyH_ready (rs := [4]) (by kernel_rfl) (by simp) ?_
      refine AllReadyH.cons rfl (fun K hK => ?_) AllReadyH.nil
      refine if_wanted rfl ?_
      go_simp
      refine (HI.out ad _ (HE.out.below (I3.out.trans (hHeld.mono I3.out.size)) (Nat.le_refl _))).mono ?_
      rintro e x32 ⟨rfl, hb⟩
      have hH2 : Below w1.heap.size w1 x32 := hHeld.trans (hb.mono hHeld.size)
      have C10 : Hid (CBlk x32 N10 31 noB) := B10.out.below hb B10.out.lt
      clear B10
      have B10 := C10
      clear C10
      have C9 : Hid (CBlk x32 N9 31 noB) := B9.out.below hb B9.out.lt
      clear B9
      have B9 := C9
      clear C9
      clear hb hHeld
      dsimp only
      refine hK.out _ _ hH2 (fun hHeld => ?_)
      clear hK K hH2
      try simp only [Act.put, zA, zB, zC, zD, zE, zF]
      refine wpAnyH_take (i := 5) (v := .tuple #[.agg (ccells X).toArray, .agg (ccells Y).toArray, .int .i64 c]) rfl (by kernel_rfl) (by kernel_rfl) (by kernel_rfl) (fun _ _ _ ⟨_, _, h, _⟩ => nomatch h) (Or.inl ⟨by rfl, fun w _ => by go_simp⟩) (by assumption) ?_
      try simp only [Act.put, zA, zB, zC, zD, zE, zF]
      refine wpAnyH_take (i := 6) (v := .agg (ccells X).toArray) rfl (by kernel_rfl) (by kernel_rfl) (by kernel_rfl) (fun _ _ _ ⟨_, _, h, _⟩ => nomatch h) (Or.inl ⟨by rfl, fun w _ => by go_simp⟩) (by assumption) ?_
      try simp only [Act.put, zA, zB, zC, zD, zE, zF]
      refine wpAnyH_take (i := 7) (v := .agg (ccells Y).toArray) rfl (by kernel_rfl) (by kernel_rfl) (by kernel_rfl) (fun _ _ _ ⟨_, _, h, _⟩ => nomatch h) (Or.inl ⟨by rfl, fun w _ => by go_simp⟩) (by assumption) ?_
      try simp only [Act.put, zA, zB, zC, zD, zE, zF]
      refine wpAnyH_take (i := 8) (v := .int .i64 c) rfl (by kernel_rfl) (by kernel_rfl) (by kernel_rfl) (fun _ _ _ ⟨_, _, h, _⟩ => nomatch h) (Or.inl ⟨by rfl, fun w _ => by go_simp⟩) (by assumption) ?_
      try simp only [Act.put, zA, zB, zC, zD, zE, zF]
      have HNE : Hid (N9 ≠ N10) := by have := hNE.out; show N9 ≠ N10; omega
      refine wpAnyH_ready (rs := [11]) (by kernel_rfl) (by simp) ?_
      refine AllReadyH.cons rfl (fun K hK => ?_) AllReadyH.nil
      refine if_wanted rfl (wp_store_row 31 (.tmp 8) (.tmp 26) rfl N9 (ccells X).toArray rfl rfl 31 _ B9.out (size_of_crate Tryd.sizeCr _ HX.out.1) (by show (ccells noB).toArray.size = _; rw [ccells_size _ HX.out.1]; rfl) (ccells_one _) ?_)
      refine hK.out _ _ (Below.setRow hHeld _ _ H9.out) (fun hHeld => ?_)
      clear hK K
      try simp only [Act.put, zA, zB, zC]
      refine wpAnyH_ready (rs := [12]) (by kernel_rfl) (by simp) ?_
      refine AllReadyH.cons rfl (fun K hK => ?_) AllReadyH.nil
      refine if_wanted rfl (wp_store_row 31 (.tmp 9) (.tmp 27) rfl N10 (ccells Y).toArray rfl rfl 31 _ (B10.out.rowOff (fun e => HNE.out e.symm) _) (size_of_crate Tryd.sizeCr _ HY.out.1) (by show (ccells noB).toArray.size = _; rw [ccells_size _ HY.out.1]; rfl) (ccells_one _) ?_)
      refine hK.out _ _ (Below.setRow hHeld _ _ H10.out) (fun hHeld => ?_)
      clear hK K
      try simp only [Act.put, zA, zB, zC]
      refine wpAnyH_ready (rs := [13]) (by kernel_rfl) (by simp) ?_
      refine AllReadyH.cons rfl (fun K hK => ?_) AllReadyH.nil
      refine if_wanted rfl ?_
      refine wp_assign0 rfl rfl ?_
      refine hK.out _ _ hHeld (fun hHeld => ?_)
      clear hK K
      try simp only [Act.put, zA, zB, zC, zD, zE, zF]
      exact wpAnyH_done (by kernel_rfl) ⟨N9, N10, rfl, rfl, (CBlk.setRow (Y := X) B9.out).rowOff HNE.out _, CBlk.setRow (Y := Y) (B10.out.rowOff (fun e => HNE.out e.symm) _), hHeld⟩ _
     refine AllReadyH.cons rfl (fun K hK => ?_) AllReadyH.nil
     refine if_wanted rfl ?_
     go_simp
     have bn : CBlk (x27.alloc (.cells #[.int .u8 0, .int .i16 0, .int .u8 0, .int .i16 0, .int .u8 0, .int .i16 0, .int .u8 0, .int .i16 0, .int .u8 0, .int .i16 0, .int .u8 0, .int .i16 0, .int .u8 0, .int .i16 0, .int .u8 0, .int .i16 0, .int .u8 0, .int .i16 0, .int .u8 0, .int .i16 0, .int .u8 0, .int .i16 0, .int .u8 0, .int .i16 0] 31)) x27.heap.size 31 noB := CBlk.new' rfl rfl
     have hn : w1.heap.size ≤ x27.heap.size := hHeld.size
     have hH2 : Below w1.heap.size w1 (x27.alloc (.cells #[.int .u8 0, .int .i16 0, .int .u8 0, .int .i16 0, .int .u8 0, .int .i16 0, .int .u8 0, .int .i16 0, .int .u8 0, .int .i16 0, .int .u8 0, .int .i16 0, .int .u8 0, .int .i16 0, .int .u8 0, .int .i16 0, .int .u8 0, .int .i16 0, .int .u8 0, .int .i16 0, .int .u8 0, .int .i16 0, .int .u8 0, .int .i16 0] 31)) := hHeld.alloc hHeld.size _
     have C10 : Hid (CBlk (x27.alloc (.cells #[.int .u8 0, .int .i16 0, .int .u8 0, .int .i16 0, .int .u8 0, .int .i16 0, .int .u8 0, .int .i16 0, .int .u8 0, .int .i16 0, .int .u8 0, .int .i16 0, .int .u8 0, .int .i16 0, .int .u8 0, .int .i16 0, .int .u8 0, .int .i16 0, .int .u8 0, .int .i16 0, .int .u8 0, .int .i16 0, .int .u8 0, .int .i16 0] 31)) N10 31 noB) := B10.out.alloc _
     have hNE0 : N10 < x27.heap.size := B10.out.lt
     clear B10
     obtain ⟨x33, hx⟩ : ∃ x, x27.alloc (.cells #[.int .u8 0, .int .i16 0, .int .u8 0, .int .i16 0, .int .u8 0, .int .i16 0, .int .u8 0, .int .i16 0, .int .u8 0, .int .i16 0, .int .u8 0, .int .i16 0, .int .u8 0, .int .i16 0, .int .u8 0, .int .i16 0, .int .u8 0, .int .i16 0, .int .u8 0, .int .i16 0, .int .u8 0, .int .i16 0, .int .u8 0, .int .i16 0] 31) = x := ⟨_, rfl⟩
     obtain ⟨N9, hN⟩ : ∃ N, x27.heap.size = N := ⟨_, rfl⟩
     rw [hx] at hH2 bn C10 ⊢
     rw [hN] at hn bn hNE0 ⊢
     have B10 := C10
     clear C10
     have hNE := Lib.hid hNE0
     clear hNE0
     have B9 := Lib.hid bn
     have H9 := Lib.hid hn
     clear bn hn hx hN hHeld
     refine hK.out _ _ hH2 (fun hHeld => ?_)
     clear hK K hH2
     try simp only [Act.put, zA, zB, zC, zD, zE, zF]
     refine wpAnyH_ready (rs := [3]) (by kernel_rfl) (by simp) ?_
     refine AllReadyH.cons rfl (fun K hK => ?_) AllReadyH.nil
     refine if_wanted rfl ?_
     go_simp
     refine (toCrate_any b HB.out.1 _).mono ?_
     rintro e x34 ⟨rfl, hb⟩
     have hH2 : Below w1.heap.size w1 x34 := hHeld.trans (hb.mono hHeld.size)
     have C10 : Hid (CBlk x34 N10 31 noB) := B10.out.below hb B10.out.lt
     clear B10
     have B10 := C10
     clear C10
     have C9 : Hid (CBlk x34 N9 31 noB) := B9.out.below hb B9.out.lt
     clear B9
     have B9 := C9
     clear C9
     clear hb hHeld
     dsimp only
     refine hK.out _ _ hH2 (fun hHeld => ?_)
     clear hK K hH2
     try simp only [Act.put, zA, zB, zC, zD, zE, zF]
     refine wpAnyH_ready (rs := [4]) (by kernel_rfl) (by simp) ?_
     refine AllReadyH.cons rfl (fun K hK => ?_) AllReadyH.nil
     refine if_wanted rfl ?_
     go_simp
     refine (HI.out ad _ (HE.out.below (I3.out.trans (hHeld.mono I3.out.size)) (Nat.le_refl _))).mono ?_
     rintro e x35 ⟨rfl, hb⟩
     have hH2 : Below w1.heap.size w1 x35 := hHeld.trans (hb.mono hHeld.size)
     have C10 : Hid (CBlk x35 N10 31 noB) := B10.out.below hb B10.out.lt
     clear B10
     have B10 := C10
     clear C10
     have C9 : Hid (CBlk x35 N9 31 noB) := B9.out.below hb B9.out.lt
     clear B9
     have B9 := C9
     clear C9
     clear hb hHeld
     dsimp only
     refine hK.out _ _ hH2 (fun hHeld => ?_)
     clear hK K hH2
     try simp only [Act.put, zA, zB, zC, zD, zE, zF]
     refine wpAnyH_take (i := 5) (v := .tuple #[.agg (ccells X).toArray, .agg (ccells Y).toArray, .int .i64 c]) rfl (by kernel_rfl) (by kernel_rfl) (by kernel_rfl) (fun _ _ _ ⟨_, _, h, _⟩ => nomatch h) (Or.inl ⟨by rfl, fun w _ => by go_simp⟩) (by assumption) ?_
     try simp only [Act.put, zA, zB, zC, zD, zE, zF]
     refine wpAnyH_take (i := 6) (v := .agg (ccells X).toArray) rfl (by kernel_rfl) (by kernel_rfl) (by kernel_rfl) (fun _ _ _ ⟨_, _, h, _⟩ => nomatch h) (Or.inl ⟨by rfl, fun w _ => by go_simp⟩) (by assumption) ?_
     try simp only [Act.put, zA, zB, zC, zD, zE, zF]
     refine wpAnyH_take (i := 7) (v := .agg (ccells Y).toArray) rfl (by kernel_rfl) (by kernel_rfl) (by kernel_rfl) (fun _ _ _ ⟨_, _, h, _⟩ => nomatch h) (Or.inl ⟨by rfl, fun w _ => by go_simp⟩) (by assumption) ?_
     try simp only [Act.put, zA, zB, zC, zD, zE, zF]
     refine wpAnyH_take (i := 8) (v := .int .i64 c) rfl (by kernel_rfl) (by kernel_rfl) (by kernel_rfl) (fun _ _ _ ⟨_, _, h, _⟩ => nomatch h) (Or.inl ⟨by rfl, fun w _ => by go_simp⟩) (by assumption) ?_
     try simp only [Act.put, zA, zB, zC, zD, zE, zF]
     have HNE : Hid (N9 ≠ N10) := by have := hNE.out; show N9 ≠ N10; omega
     refine wpAnyH_ready (rs := [11]) (by kernel_rfl) (by simp) ?_
     refine AllReadyH.cons rfl (fun K hK => ?_) AllReadyH.nil
     refine if_wanted rfl (wp_store_row 31 (.tmp 8) (.tmp 26) rfl N9 (ccells X).toArray rfl rfl 31 _ B9.out (size_of_crate Tryd.sizeCr _ HX.out.1) (by show (ccells noB).toArray.size = _; rw [ccells_size _ HX.out.1]; rfl) (ccells_one _) ?_)
     refine hK.out _ _ (Below.setRow hHeld _ _ H9.out) (fun hHeld => ?_)
     clear hK K
     try simp only [Act.put, zA, zB, zC]
     refine wpAnyH_ready (rs := [12]) (by kernel_rfl) (by simp) ?_
     refine AllReadyH.cons rfl (fun K hK => ?_) AllReadyH.nil
     refine if_wanted rfl (wp_store_row 31 (.tmp 9) (.tmp 27) rfl N10 (ccells Y).toArray rfl rfl 31 _ (B10.out.rowOff (fun e => HNE.out e.symm) _) (size_of_crate Tryd.sizeCr _ HY.out.1) (by show (ccells noB).toArray.size = _; rw [ccells_size _ HY.out.1]; rfl) (ccells_one _) ?_)
     refine hK.out _ _ (Below.setRow hHeld _ _ H10.out) (fun hHeld => ?_)
     clear hK K
     try simp only [Act.put, zA, zB, zC]
     refine wpAnyH_ready (rs := [13]) (by kernel_rfl) (by simp) ?_
     refine AllReadyH.cons rfl (fun K hK => ?_) AllReadyH.nil
     refine if_wanted rfl ?_
     refine wp_assign0 rfl rfl ?_
     refine hK.out _ _ hHeld (fun hHeld => ?_)
     clear hK K
     try simp only [Act.put, zA, zB, zC, zD, zE, zF]
     exact wpAnyH_done (by kernel_rfl) ⟨N9, N10, rfl, rfl, (CBlk.setRow (Y := X) B9.out).rowOff HNE.out _, CBlk.setRow (Y := Y) (B10.out.rowOff (fun e => HNE.out e.symm) _), hHeld⟩ _
    refine AllReadyH.cons rfl (fun K hK => ?_) ?_
    ·skip
     refine if_wanted rfl ?_
     go_simp
     have bn : CBlk (D0.alloc (.cells #[.int .u8 0, .int .i16 0, .int .u8 0, .int .i16 0, .int .u8 0, .int .i16 0, .int .u8 0, .int .i16 0, .int .u8 0, .int .i16 0, .int .u8 0, .int .i16 0, .int .u8 0, .int .i16 0, .int .u8 0, .int .i16 0, .int .u8 0, .int .i16 0, .int .u8 0, .int .i16 0, .int .u8 0, .int .i16 0, .int .u8 0, .int .i16 0] 31)) D0.heap.size 31 noB := CBlk.new' rfl rfl
     have hn : w1.heap.size ≤ D0.heap.size := hHeld.size
     have hH2 : Below w1.heap.size w1 (D0.alloc (.cells #[.int .u8 0, .int .i16 0, .int .u8 0, .int .i16 0, .int .u8 0, .int .i16 0, .int .u8 0, .int .i16 0, .int .u8 0, .int .i16 0, .int .u8 0, .int .i16 0, .int .u8 0, .int .i16 0, .int .u8 0, .int .i16 0, .int .u8 0, .int .i16 0, .int .u8 0, .int .i16 0, .int .u8 0, .int .i16 0, .int .u8 0, .int .i16 0] 31)) := hHeld.alloc hHeld.size _
     obtain ⟨x36, hx⟩ : ∃ x, D0.alloc (.cells #[.int .u8 0, .int .i16 0, .int .u8 0, .int .i16 0, .int .u8 0, .int .i16 0, .int .u8 0, .int .i16 0, .int .u8 0, .int .i16 0, .int .u8 0, .int .i16 0, .int .u8 0, .int .i16 0, .int .u8 0, .int .i16 0, .int .u8 0, .int .i16 0, .int .u8 0, .int .i16 0, .int .u8 0, .int .i16 0, .int .u8 0, .int .i16 0] 31) = x := ⟨_, rfl⟩
     obtain ⟨N9, hN⟩ : ∃ N, D0.heap.size = N := ⟨_, rfl⟩
     rw [hx] at hH2 bn ⊢
     rw [hN] at hn bn ⊢
     have B9 := Lib.hid bn
     have H9 := Lib.hid hn
     clear bn hn hx hN hHeld
     refine hK.out _ _ hH2 (fun hHeld => ?_)
     clear hK K hH2
     try simp only [Act.put, zA, zB, zC, zD, zE, zF]
     refine wpAnyH_ready (rs := [1, 10]) (by kernel_rfl) (by simp) ?_
     refine AllReadyH.cons rfl (fun K hK => ?_) ?_
     ·skip
      refine if_wanted rfl ?_
      go_simp
      refine (toCrate_any a HA.out.1 _).mono ?_
      rintro e x37 ⟨rfl, hb⟩
      have hH2 : Below w1.heap.size w1 x37 := hHeld.trans (hb.mono hHeld.size)
      have C9 : Hid (CBlk x37 N9 31 noB) := B9.out.below hb B9.out.lt
      clear B9
      have B9 := C9
      clear C9
      clear hb hHeld
      dsimp only
      refine hK.out _ _ hH2 (fun hHeld => ?_)
      clear hK K hH2
      try simp only [Act.put, zA, zB, zC, zD, zE, zF]
      refine wpAnyH_ready (rs := [3, 10]) (by kernel_rfl) (by simp) ?_
      refine AllReadyH.cons rfl (fun K hK => ?_) ?_
      ·skip
       refine if_wanted rfl ?_
       go_simp
       refine (toCrate_any b HB.out.1 _).mono ?_
       rintro e x38 ⟨rfl, hb⟩
       have hH2 : Below w1.heap.size w1 x38 := hHeld.trans (hb.mono hHeld.size)
       have C9 : Hid (CBlk x38 N9 31 noB) := B9.out.below hb B9.out.lt
       clear B9
       have B9 := C9
       clear C9
       clear hb hHeld
       dsimp only
       refine hK.out _ _ hH2 (fun hHeld => ?_)
       clear hK K hH2
       try simp only [Act.put, zA, zB, zC, zD, zE, zF]
       refine wpAnyH_ready (rs := [4, 10]) (by kernel_rfl) (by simp) ?_
       refine AllReadyH.cons rfl (fun K hK => ?_) ?_
       ·skip
        refine if_wanted rfl ?_
        go_simp
        refine (HI.out ad _ (HE.out.below (I3.out.trans (hHeld.mono I3.out.size)) (Nat.le_refl _))).mono ?_
        rintro e x39 ⟨rfl, hb⟩
        have hH2 : Below w1.heap.size w1 x39 := hHeld.trans (hb.mono hHeld.size)
        have C9 : Hid (CBlk x39 N9 31 noB) := B9.out.below hb B9.out.lt
        clear B9
        have B9 := C9
        clear C9
        clear hb hHeld
        dsimp only
        refine hK.out _ _ hH2 (fun hHeld => ?_)
        clear hK K hH2
        try simp only [Act.put, zA, zB, zC, zD, zE, zF]
        refine wpAnyH_take (i := 5) (v := .tuple #[.agg (ccells X).toArray, .agg (ccells Y).toArray, .int .i64 c]) rfl (by kernel_rfl) (by kernel_rfl) (by kernel_rfl) (fun _ _ _ ⟨_, _, h, _⟩ => nomatch h) (Or.inl ⟨by rfl, fun w _ => by go_simp⟩) (by assumption) ?_
        try simp only [Act.put, zA, zB, zC, zD, zE, zF]
        refine wpAnyH_take (i := 6) (v := .agg (ccells X).toArray) rfl (by kernel_rfl) (by kernel_rfl) (by kernel_rfl) (fun _ _ _ ⟨_, _, h, _⟩ => nomatch h) (Or.inl ⟨by rfl, fun w _ => by go_simp⟩) (by assumption) ?_
        try simp only [Act.put, zA, zB, zC, zD, zE, zF]
        refine wpAnyH_take (i := 7) (v := .agg (ccells Y).toArray) rfl (by kernel_rfl) (by kernel_rfl) (by kernel_rfl) (fun _ _ _ ⟨_, _, h, _⟩ => nomatch h) (Or.inl ⟨by rfl, fun w _ => by go_simp⟩) (by assumption) ?_
        try simp only [Act.put, zA, zB, zC, zD, zE, zF]
        refine wpAnyH_take (i := 8) (v := .int .i64 c) rfl (by kernel_rfl) (by kernel_rfl) (by kernel_rfl) (fun _ _ _ ⟨_, _, h, _⟩ => nomatch h) (Or.inl ⟨by rfl, fun w _ => by go_simp⟩) (by assumption) ?_
        try simp only [Act.put, zA, zB, zC, zD, zE, zF]
        refine wpAnyH_ready (rs := [10]) (by kernel_rfl) (by simp) ?_
        refine AllReadyH.cons rfl (fun K hK => ?_) AllReadyH.nil
        refine if_wanted rfl ?_
        go_simp
        have bn : CBlk (x39.alloc (.cells #[.int .u8 0, .int .i16 0, .int .u8 0, .int .i16 0, .int .u8 0, .int .i16 0, .int .u8 0, .int .i16 0, .int .u8 0, .int .i16 0, .int .u8 0, .int .i16 0, .int .u8 0, .int .i16 0, .int .u8 0, .int .i16 0, .int .u8 0, .int .i16 0, .int .u8 0, .int .i16 0, .int .u8 0, .int .i16 0, .int .u8 0, .int .i16 0] 31)) x39.heap.size 31 noB := CBlk.new' rfl rfl
        have hn : w1.heap.size ≤ x39.heap.size := hHeld.size
        have hH2 : Below w1.heap.size w1 (x39.alloc (.cells #[.int .u8 0, .int .i16 0, .int .u8 0, .int .i16 0, .int .u8 0, .int .i16 0, .int .u8 0, .int .i16 0, .int .u8 0, .int .i16 0, .int .u8 0, .int .i16 0, .int .u8 0, .int .i16 0, .int .u8 0, .int .i16 0, .int .u8 0, .int .i16 0, .int .u8 0, .int .i16 0, .int .u8 0, .int .i16 0, .int .u8 0, .int .i16 0] 31)) := hHeld.alloc hHeld.size _
        have C9 : Hid (CBlk (x39.alloc (.cells #[.int .u8 0, .int .i16 0, .int .u8 0, .int .i16 0, .int .u8 0, .int .i16 0, .int .u8 0, .int .i16 0, .int .u8 0, .int .i16 0, .int .u8 0, .int .i16 0, .int .u8 0, .int .i16 0, .int .u8 0, .int .i16 0, .int .u8 0, .int .i16 0, .int .u8 0, .int .i16 0, .int .u8 0, .int .i16 0, .int .u8 0, .int .i16 0] 31)) N9 31 noB) := B9.out.alloc _
        have hNE0 : N9 < x39.heap.size := B9.out.lt
        clear B9
        obtain ⟨x40, hx⟩ : ∃ x, x39.alloc (.cells #[.int .u8 0, .int .i16 0, .int .u8 0, .int .i16 0, .int .u8 0, .int .i16 0, .int .u8 0, .int .i16 0, .int .u8 0, .int .i16 0, .int .u8 0, .int .i16 0, .int .u8 0, .int .i16 0, .int .u8 0, .int .i16 0, .int .u8 0, .int .i16 0, .int .u8 0, .int .i16 0, .int .u8 0, .int .i16 0, .int .u8 0, .int .i16 0] 31) = x := ⟨_, rfl⟩
        obtain ⟨N10, hN⟩ : ∃ N, x39.heap.size = N := ⟨_, rfl⟩
        rw [hx] at hH2 bn C9 ⊢
        rw [hN] at hn bn hNE0 ⊢
        have B9 := C9
        clear C9
        have hNE := Lib.hid hNE0
        clear hNE0
        have B10 := Lib.hid bn
        have H10 := Lib.hid hn
        clear bn hn hx hN hHeld
        refine hK.out _ _ hH2 (fun hHeld => ?_)
        clear hK K hH2
        try simp only [Act.put, zA, zB, zC, zD, zE, zF]
        have HNE : Hid (N9 ≠ N10) := by have := hNE.out; show N9 ≠ N10; omega
        refine wpAnyH_ready (rs := [11]) (by kernel_rfl) (by simp) ?_
        refine AllReadyH.cons rfl (fun K hK => ?_) AllReadyH.nil
        refine if_wanted rfl (wp_store_row 31 (.tmp 8) (.tmp 26) rfl N9 (ccells X).toArray rfl rfl 31 _ B9.out (size_of_crate Tryd.sizeCr _ HX.out.1) (by show (ccells noB).toArray.size = _; rw [ccells_size _ HX.out.1]; rfl) (ccells_one _) ?_)
        refine hK.out _ _ (Below.setRow hHeld _ _ H9.out) (fun hHeld => ?_)
        clear hK K
        try simp only [Act.put, zA, zB, zC]
        refine wpAnyH_ready (rs := [12]) (by kernel_rfl) (by simp) ?_
        refine AllReadyH.cons rfl (fun K hK => ?_) AllReadyH.nil
        refine if_wanted rfl (wp_store_row 31 (.tmp 9) (.tmp 27) rfl N10 (ccells Y).toArray rfl rfl 31 _ (B10.out.rowOff (fun e => HNE.out e.symm) _) (size_of_crate Tryd.sizeCr _ HY.out.1) (by show (ccells noB).toArray.size = _; rw [ccells_size _ HY.out.1]; rfl) (ccells_one _) ?_)
        refine hK.out _ _ (Below.setRow hHeld _ _ H10.out) (fun hHeld => ?_)
        clear hK K
        try simp only [Act.put, zA, zB, zC]
        refine wpAnyH_ready (rs := [13]) (by kernel_rfl) (by simp) ?_
        refine AllReadyH.cons rfl (fun K hK => ?_) AllReadyH.nil
        refine if_wanted rfl ?_
        refine wp_assign0 rfl rfl ?_
        refine hK.out _ _ hHeld (fun hHeld => ?_)
        clear hK K
        try simp only [Act.put, zA, zB, zC, zD, zE, zF]
        exact wpAnyH_done (by kernel_rfl) ⟨N9, N10, rfl, rfl, (CBlk.setRow (Y := X) B9.out).rowOff HNE.out _, CBlk.setRow (Y := Y) (B10.out.rowOff (fun e => HNE.out e.symm) _), hHeld⟩ _
       refine AllReadyH.cons rfl (fun K hK => ?_) AllReadyH.nil
       refine if_wanted rfl ?_
       go_simp
       have bn : CBlk (x38.alloc (.cells #[.int .u8 0, .int .i16 0, .int .u8 0, .int .i16 0, .int .u8 0, .int .i16 0, .int .u8 0, .int .i16 0, .int .u8 0, .int .i16 0, .int .u8 0, .int .i16 0, .int .u8 0, .int .i16 0, .int .u8 0, .int .i16 0, .int .u8 0, .int .i16 0, .int .u8 0, .int .i16 0, .int .u8 0, .int .i16 0, .int .u8 0, .int .i16 0] 31)) x38.heap.size 31 noB := CBlk.new' rfl rfl
       have hn : w1.heap.size ≤ x38.heap.size := hHeld.size
       have hH2 : Below w1.heap.size w1 (x38.alloc (.cells #[.int .u8 0, .int .i16 0, .int .u8 0, .int .i16 0, .int .u8 0, .int .i16 0, .int .u8 0, .int .i16 0, .int .u8 0, .int .i16 0, .int .u8 0, .int .i16 0, .int .u8 0, .int .i16 0, .int .u8 0, .int .i16 0, .int .u8 0, .int .i16 0, .int .u8 0, .int .i16 0, .int .u8 0, .int .i16 0, .int .u8 0, .int .i16 0] 31)) := hHeld.alloc hHeld.size _
       have C9 : Hid (CBlk (x38.alloc (.cells #[.int .u8 0, .int .i16 0, .int .u8 0, .int .i16 0, .int .u8 0, .int .i16 0, .int .u8 0, .int .i16 0, .int .u8 0, .int .i16 0, .int .u8 0, .int .i16 0, .int .u8 0, .int .i16 0, .int .u8 0, .int .i16 0, .int .u8 0, .int .i16 0, .int .u8 0, .int .i16 0, .int .u8 0, .int .i16 0, .int .u8 0, .int .i16 0] 31)) N9 31 noB) := B9.out.alloc _
       have hNE0 : N9 < x38.heap.size := B9.out.lt
       clear B9
       obtain ⟨x41, hx⟩ : ∃ x, x38.alloc (.cells #[.int .u8 0, .int .i16 0, .int .u8 0, .int .i16 0, .int .u8 0, .int .i16 0, .int .u8 0, .int .i16 0, .int .u8 0, .int .i16 0, .int .u8 0, .int .i16 0, .int .u8 0, .int .i16 0, .int .u8 0, .int .i16 0, .int .u8 0, .int .i16 0, .int .u8 0, .int .i16 0, .int .u8 0, .int .i16 0, .int .u8 0, .int .i16 0] 31) = x := ⟨_, rfl⟩
       obtain ⟨N10, hN⟩ : ∃ N, x38.heap.size = N := ⟨_, rfl⟩
       rw [hx] at hH2 bn C9 ⊢
       rw [hN] at hn bn hNE0 ⊢
       have B9 := C9
       clear C9
       have hNE := Lib.hid hNE0
       clear hNE0
       have B10 := Lib.hid bn
       have H10 := Lib.hid hn
       clear bn hn hx hN hHeld
       refine hK.out _ _ hH2 (fun hHeld => ?_)
       clear hK K hH2
       try simp only [Act.put, zA, zB, zC, zD, zE, zF]
       refine wpAnyH_ready (rs := [4]) (by kernel_rfl) (by simp) ?_
       refine AllReadyH.cons rfl (fun K hK => ?_) AllReadyH.nil
       refine if_wanted rfl ?_
       go_simp
       refine (HI.out ad _ (HE.out.below (I3.out.trans (hHeld.mono I3.out.size)) (Nat.le_refl _))).mono ?_
       rintro e x42 ⟨rfl, hb⟩
       have hH2 : Below w1.heap.size w1 x42 := hHeld.trans (hb.mono hHeld.size)
       have C9 : Hid (CBlk x42 N9 31 noB) := B9.out.below hb B9.out.lt
       clear B9
       have B9 := C9
       clear C9
       have C10 : Hid (CBlk x42 N10 31 noB) := B10.out.below hb B10.out.lt
       clear B10
       have B10 := C10
       clear C10
       clear hb hHeld
       dsimp only
       refine hK.out _ _ hH2 (fun hHeld => ?_)
       clear hK K hH2
       try simp only [Act.put, zA, zB, zC, zD, zE, zF]
       refine wpAnyH_take (i := 5) (v := .tuple #[.agg (ccells X).toArray, .agg (ccells Y).toArray, .int .i64 c]) rfl (by kernel_rfl) (by kernel_rfl) (by kernel_rfl) (fun _ _ _ ⟨_, _, h, _⟩ => nomatch h) (Or.inl ⟨by rfl, fun w _ => by go_simp⟩) (by assumption) ?_
       try simp only [Act.put, zA, zB, zC, zD, zE, zF]
       refine wpAnyH_take (i := 6) (v := .agg (ccells X).toArray) rfl (by kernel_rfl) (by kernel_rfl) (by kernel_rfl) (fun _ _ _ ⟨_, _, h, _⟩ => nomatch h) (Or.inl ⟨by rfl, fun w _ => by go_simp⟩) (by assumption) ?_
       try simp only [Act.put, zA, zB, zC, zD, zE, zF]
       refine wpAnyH_take (i := 7) (v := .agg (ccells Y).toArray) rfl (by kernel_rfl) (by kernel_rfl) (by kernel_rfl) (fun _ _ _ ⟨_, _, h, _⟩ => nomatch h) (Or.inl ⟨by rfl, fun w _ => by go_simp⟩) (by assumption) ?_
       try simp only [Act.put, zA, zB, zC, zD, zE, zF]
       refine wpAnyH_take (i := 8) (v := .int .i64 c) rfl (by kernel_rfl) (by kernel_rfl) (by kernel_rfl) (fun _ _ _ ⟨_, _, h, _⟩ => nomatch h) (Or.inl ⟨by rfl, fun w _ => by go_simp⟩) (by assumption) ?_
       try simp only [Act.put, zA, zB, zC, zD, zE, zF]
       have HNE : Hid (N9 ≠ N10) := by have := hNE.out; show N9 ≠ N10; omega
       refine wpAnyH_ready (rs := [11]) (by kernel_rfl) (by simp) ?_
       refine AllReadyH.cons rfl (fun K hK => ?_) AllReadyH.nil
       refine if_wanted rfl (wp_store_row 31 (.tmp 8) (.tmp 26) rfl N9 (ccells X).toArray rfl rfl 31 _ B9.out (size_of_crate Tryd.sizeCr _ HX.out.1) (by show (ccells noB).toArray.size = _; rw [ccells_size _ HX.out.1]; rfl) (ccells_one _) ?_)
       refine hK.out _ _ (Below.setRow hHeld _ _ H9.out) (fun hHeld => ?_)
       clear hK K
       try simp only [Act.put, zA, zB, zC]
       refine wpAnyH_ready (rs := [12]) (by kernel_rfl) (by simp) ?_
       refine AllReadyH.cons rfl (fun K hK => ?_) AllReadyH.nil
       refine if_wanted rfl (wp_store_row 31 (.tmp 9) (.tmp 27) rfl N10 (ccells Y).toArray rfl rfl 31 _ (B10.out.rowOff (fun e => HNE.out e.symm) _) (size_of_crate Tryd.sizeCr _ HY.out.1) (by show (ccells noB).toArray.size = _; rw [ccells_size _ HY.out.1]; rfl) (ccells_one _) ?_)
       refine hK.out _ _ (Below.setRow hHeld _ _ H10.out) (fun hHeld => ?_)
       clear hK K
       try simp only [Act.put, zA, zB, zC]
       refine wpAnyH_ready (rs := [13]) (by kernel_rfl) (by simp) ?_
       refine AllReadyH.cons rfl (fun K hK => ?_) AllReadyH.nil
       refine if_wanted rfl ?_
       refine wp_assign0 rfl rfl ?_
       refine hK.out _ _ hHeld (fun hHeld => ?_)
       clear hK K
       try simp only [Act.put, zA, zB, zC, zD, zE, zF]
       exact wpAnyH_done (by kernel_rfl) ⟨N9, N10, rfl, rfl, (CBlk.setRow (Y := X) B9.out).rowOff HNE.out _, CBlk.setRow (Y := Y) (B10.out.rowOff (fun e => HNE.out e.symm) _), hHeld⟩ _
      refine AllReadyH.cons rfl (fun K hK => ?_) AllReadyH.nil
      refine if_wanted rfl ?_
      go_simp
      have bn : CBlk (x37.alloc (.cells #[.int .u8 0, .int .i16 0, .int .u8 0, .int .i16 0, .int .u8 0, .int .i16 0, .int .u8 0, .int .i16 0, .int .u8 0, .int .i16 0, .int .u8 0, .int .i16 0, .int .u8 0, .int .i16 0, .int .u8 0, .int .i16 0, .int .u8 0, .int .i16 0, .int .u8 0, .int .i16 0, .int .u8 0, .int .i16 0, .int .u8 0, .int .i16 0] 31)) x37.heap.size 31 noB := CBlk.new' rfl rfl
      have hn : w1.heap.size ≤ x37.heap.size := hHeld.size
      have hH2 : Below w1.heap.size w1 (x37.alloc (.cells #[.int .u8 0, .int .i16 0, .int .u8 0, .int .i16 0, .int .u8 0, .int .i16 0, .int .u8 0, .int .i16 0, .int .u8 0, .int .i16 0, .int .u8 0, .int .i16 0, .int .u8 0, .int .i16 0, .int .u8 0, .int .i16 0, .int .u8 0, .int .i16 0, .int .u8 0, .int .i16 0, .int .u8 0, .int .i16 0, .int .u8 0, .int .i16 0] 31)) := hHeld.alloc hHeld.size _
      have C9 : Hid (CBlk (x37.alloc (.cells #[.int .u8 0, .int .i16 0, .int .u8 0, .int .i16 0, .int .u8 0, .int .i16 0, .int .u8 0, .int .i16 0, .int .u8 0, .int .i16 0, .int .u8 0, .int .i16 0, .int .u8 0, .int .i16 0, .int .u8 0, .int .i16 0, .int .u8 0, .int .i16 0, .int .u8 0, .int .i16 0, .int .u8 0, .int .i16 0, .int .u8 0, .int .i16 0] 31)) N9 31 noB) := B9.out.alloc _
      have hNE0 : N9 < x37.heap.size := B9.out.lt
      clear B9
      obtain ⟨x43, hx⟩ : ∃ x, x37.alloc (.cells #[.int .u8 0, .int .i16 0, .int .u8 0, .int .i16 0, .int .u8 0, .int .i16 0, .int .u8 0, .int .i16 0, .int .u8 0, .int .i16 0, .int .u8 0, .int .i16 0, .int .u8 0, .int .i16 0, .int .u8 0, .int .i16 0, .int .u8 0, .int .i16 0, .int .u8 0, .int .i16 0, .int .u8 0, .int .i16 0, .int .u8 0, .int .i16 0] 31) = x := ⟨_, rfl⟩
      obtain ⟨N10, hN⟩ : ∃ N, x37.heap.size = N := ⟨_, rfl⟩
      rw [hx] at hH2 bn C9 ⊢
      rw [hN] at hn bn hNE0 ⊢
      have B9 := C9
      clear C9
      have hNE := Lib.hid hNE0
      clear hNE0
      have B10 := Lib.hid bn
      have H10 := Lib.hid hn
      clear bn hn hx hN hHeld
      refine hK.out _ _ hH2 (fun hHeld => ?_)
      clear hK K hH2
      try simp only [Act.put, zA, zB, zC, zD, zE, zF]
      refine wpAnyH_ready (rs := [3]) (by kernel_rfl) (by simp) ?_
      refine AllReadyH.cons rfl (fun K hK => ?_) AllReadyH.nil
      refine if_wanted rfl ?_
      go_simp
      refine (toCrate_any b HB.out.1 _).mono ?_
      rintro e x44 ⟨rfl, hb⟩
      have hH2 : Below w1.heap.size w1 x44 := hHeld.trans (hb.mono hHeld.size)
      have C9 : Hid (CBlk x44 N9 31 noB) := B9.out.below hb B9.out.lt
      clear B9
      have B9 := C9
      clear C9
      have C10 : Hid (CBlk x44 N10 31 noB) := B10.out.below hb B10.out.lt
      clear B10
      have B10 := C10
      clear C10
      clear hb hHeld
      dsimp only
      refine hK.out _ _ hH2 (fun hHeld => ?_)
      clear hK K hH2
      try simp only [Act.put, zA, zB, zC, zD, zE, zF]
      refine wpAnyH_ready (rs := [4]) (by kernel_rfl) (by simp) ?_
      refine AllReadyH.cons rfl (fun K hK => ?_) AllReadyH.nil
      refine if_wanted rfl ?_
      go_simp
      refine (HI.out ad _ (HE.out.below (I3.out.trans (hHeld.mono I3.out.size)) (Nat.le_refl _))).mono ?_
      rintro e x45 ⟨rfl, hb⟩
      have hH2 : Below w1.heap.size w1 x45 := hHeld.trans (hb.mono hHeld.size)
      have C9 : Hid (CBlk x45 N9 31 noB) := B9.out.below hb B9.out.lt
      clear B9
      have B9 := C9
      clear C9
      have C10 : Hid (CBlk x45 N10 31 noB) := B10.out.below hb B10.out.lt
      clear B10
      have B10 := C10
      clear C10
      clear hb hHeld
      dsimp only
      refine hK.out _ _ hH2 (fun hHeld => ?_)
      clear hK K hH2
      try simp only [Act.put, zA, zB, zC, zD, zE, zF]
      refine wpAnyH_take (i := 5) (v := .tuple #[.agg (ccells X).toArray, .agg (ccells Y).toArray, .int .i64 c]) rfl (by kernel_rfl) (by kernel_rfl) (by kernel_rfl) (fun _ _ _ ⟨_, _, h, _⟩ => nomatch h) (Or.inl ⟨by rfl, fun w _ => by go_simp⟩) (by assumption) ?_
      try simp only [Act.put, zA, zB, zC, zD, zE, zF]
      refine wpAnyH_take (i := 6) (v := .agg (ccells X).toArray) rfl (by kernel_rfl) (by kernel_rfl) (by kernel_rfl) (fun _ _ _ ⟨_, _, h, _⟩ => nomatch h) (Or.inl ⟨by rfl, fun w _ => by go_simp⟩) (by assumption) ?_
      try simp only [Act.put, zA, zB, zC, zD, zE, zF]
      refine wpAnyH_take (i := 7) (v := .agg (ccells Y).toArray) rfl (by kernel_rfl) (by kernel_rfl) (by kernel_rfl) (fun _ _ _ ⟨_, _, h, _⟩ => nomatch h) (Or.inl ⟨by rfl, fun w _ => by go_simp⟩) (by assumption) ?_
      try simp only [Act.put, zA, zB, zC, zD, zE, zF]
      refine wpAnyH_take (i := 8) (v := .int .i64 c) rfl (by kernel_rfl) (by kernel_rfl) (by kernel_rfl) (fun _ _ _ ⟨_, _, h, _⟩ => nomatch h) (Or.inl ⟨by rfl, fun w _ => by go_simp⟩) (by assumption) ?_
      try simp only [Act.put, zA, zB, zC, zD, zE, zF]
      have HNE : Hid (N9 ≠ N10) := by have := hNE.out; show N9 ≠ N10; omega
      refine wpAnyH_ready (rs := [11]) (by kernel_rfl) (by simp) ?_
      refine AllReadyH.cons rfl (fun K hK => ?_) AllReadyH.nil
      refine if_wanted rfl (wp_store_row 31 (.tmp 8) (.tmp 26) rfl N9 (ccells X).toArray rfl rfl 31 _ B9.out (size_of_crate Tryd.sizeCr _ HX.out.1) (by show (ccells noB).toArray.size = _; rw [ccells_size _ HX.out.1]; rfl) (ccells_one _) ?_)
      refine hK.out _ _ (Below.setRow hHeld _ _ H9.out) (fun hHeld => ?_)
      clear hK K
      try simp only [Act.put, zA, zB, zC]
      refine wpAnyH_ready (rs := [12]) (by kernel_rfl) (by simp) ?_
      refine AllReadyH.cons rfl (fun K hK => ?_) AllReadyH.nil
      refine if_wanted rfl (wp_store_row 31 (.tmp 9) (.tmp 27) rfl N10 (ccells Y).toArray rfl rfl 31 _ (B10.out.rowOff (fun e => HNE.out e.symm) _) (size_of_crate Tryd.sizeCr _ HY.out.1) (by show (ccells noB).toArray.size = _; rw [ccells_size _ HY.out.1]; rfl) (ccells_one _) ?_)
      refine hK.out _ _ (Below.setRow hHeld _ _ H10.out) (fun hHeld => ?_)
      clear hK K
      try simp only [Act.put, zA, zB, zC]
      refine wpAnyH_ready (rs := [13]) (by kernel_rfl) (by simp) ?_
      refine AllReadyH.cons rfl (fun K hK => ?_) AllReadyH.nil
      refine if_wanted rfl ?_
      refine wp_assign0 rfl rfl ?_
      refine hK.out _ _ hHeld (fun hHeld => ?_)
      clear hK K
      try simp only [Act.put, zA, zB, zC, zD, zE, zF]
      exact wpAnyH_done (by kernel_rfl) ⟨N9, N10, rfl, rfl, (CBlk.setRow (Y := X) B9.out).rowOff HNE.out _, CBlk.setRow (Y := Y) (B10.out.rowOff (fun e => HNE.out e.symm) _), hHeld⟩ _
     refine AllReadyH.cons rfl (fun K hK => ?_) AllReadyH.nil
     refine if_wanted rfl ?_
     go_simp
     have bn : CBlk (x36.alloc (.cells #[.int .u8 0, .int .i16 0, .int .u8 0, .int .i16 0, .int .u8 0, .int .i16 0, .int .u8 0, .int .i16 0, .int .u8 0, .int .i16 0, .int .u8 0, .int .i16 0, .int .u8 0, .int .i16 0, .int .u8 0, .int .i16 0, .int .u8 0, .int .i16 0, .int .u8 0, .int .i16 0, .int .u8 0, .int .i16 0, .int .u8 0, .int .i16 0] 31)) x36.heap.size 31 noB := CBlk.new' rfl rfl
     have hn : w1.heap.size ≤ x36.heap.size := hHeld.size
     have hH2 : Below w1.heap.size w1 (x36.alloc (.cells #[.int .u8 0, .int .i16 0, .int .u8 0, .int .i16 0, .int .u8 0, .int .i16 0, .int .u8 0, .int .i16 0, .int .u8 0, .int .i16 0, .int .u8 0, .int .i16 0, .int .u8 0, .int .i16 0, .int .u8 0, .int .i16 0, .int .u8 0, .int .i16 0, .int .u8 0, .int .i16 0, .int .u8 0, .int .i16 0, .int .u8 0, .int .i16 0] 31)) := hHeld.alloc hHeld.size _
     have C9 : Hid (CBlk (x36.alloc (.cells #[.int .u8 0, .int .i16 0, .int .u8 0, .int .i16 0, .int .u8 0, .int .i16 0, .int .u8 0, .int .i16 0, .int .u8 0, .int .i16 0, .int .u8 0, .int .i16 0, .int .u8 0, .int .i16 0, .int .u8 0, .int .i16 0, .int .u8 0, .int .i16 0, .int .u8 0, .int .i16 0, .int .u8 0, .int .i16 0, .int .u8 0, .int .i16 0] 31)) N9 31 noB) := B9.out.alloc _
     have hNE0 : N9 < x36.heap.size := B9.out.lt
     clear B9
     obtain ⟨x46, hx⟩ : ∃ x, x36.alloc (.cells #[.int .u8 0, .int .i16 0, .int .u8 0, .int .i16 0, .int .u8 0, .int .i16 0, .int .u8 0, .int .i16 0, .int .u8 0, .int .i16 0, .int .u8 0, .int .i16 0, .int .u8 0, .int .i16 0, .int .u8 0, .int .i16 0, .int .u8 0, .int .i16 0, .int .u8 0, .int .i16 0, .int .u8 0, .int .i16 0, .int .u8 0, .int .i16 0] 31) = x := ⟨_, rfl⟩
     obtain ⟨N10, hN⟩ : ∃ N, x36.heap.size = N := ⟨_, rfl⟩
     rw [hx] at hH2 bn C9 ⊢
     rw [hN] at hn bn hNE0 ⊢
     have B9 := C9
     clear C9
     have hNE := Lib.hid hNE0
     clear hNE0
     have B10 := Lib.hid bn
     have H10 := Lib.hid hn
     clear bn hn hx hN hHeld
     refine hK.out _ _ hH2 (fun hHeld => ?_)
     clear hK K hH2
     try simp only [Act.put, zA, zB, zC, zD, zE, zF]
     refine wpAnyH_ready (rs := [1]) (by kernel_rfl) (by simp) ?_
     refine AllReadyH.cons rfl (fun K hK => ?_) AllReadyH.nil
     refine if_wanted rfl ?_
     go_simp
     refine (toCrate_any a HA.out.1 _).mono ?_
     rintro e x47 ⟨rfl, hb⟩
     have hH2 : Below w1.heap.size w1 x47 := hHeld.trans (hb.mono hHeld.size)
     have C9 : Hid (CBlk x47 N9 31 noB) := B9.out.below hb B9.out.lt
     clear B9
     have B9 := C9
     clear C9
     have C10 : Hid (CBlk x47 N10 31 noB) := B10.out.below hb B10.out.lt
     clear B10
     have B10 := C10
     clear C10
     clear hb hHeld
     dsimp only
     refine hK.out _ _ hH2 (fun hHeld => ?_)
     clear hK K hH2
     try simp only [Act.put, zA, zB, zC, zD, zE, zF]
     refine wpAnyH_ready (rs := [3]) (by kernel_rfl) (by simp) ?_
     refine AllReadyH.cons rfl (fun K hK => ?_) AllReadyH.nil
     refine if_wanted rfl ?_
     go_simp
     refine (toCrate_any b HB.out.1 _).mono ?_
     rintro e x48 ⟨rfl, hb⟩
     have hH2 : Below w1.heap.size w1 x48 := hHeld.trans (hb.mono hHeld.size)
     have C9 : Hid (CBlk x48 N9 31 noB) := B9.out.below hb B9.out.lt
     clear B9
     have B9 := C9
     clear C9
     have C10 : Hid (CBlk x48 N10 31 noB) := B10.out.below hb B10.out.lt
     clear B10
     have B10 := C10
     clear C10
     clear hb hHeld
     dsimp only
     refine hK.out _ _ hH2 (fun hHeld => ?_)
     clear hK K hH2
     try simp only [Act.put, zA, zB, zC, zD, zE, zF]
     refine wpAnyH_ready (rs := [4]) (by kernel_rfl) (by simp) ?_
     refine AllReadyH.cons rfl (fun K hK => ?_) AllReadyH.nil
     refine if_wanted rfl ?_
     go_simp
     refine (HI.out ad _ (HE.out.below (I3.out.trans (hHeld.mono I3.out.size)) (Nat.le_refl _))).mono ?_
     rintro e x49 ⟨rfl, hb⟩
     have hH2 : Below w1.heap.size w1 x49 := hHeld.trans (hb.mono hHeld.size)
     have C9 : Hid (CBlk x49 N9 31 noB) := B9.out.below hb B9.out.lt
     clear B9
     have B9 := C9
     clear C9
     have C10 : Hid (CBlk x49 N10 31 noB) := B10.out.below hb B10.out.lt
     clear B10
     have B10 := C10
     clear C10
     clear hb hHeld
     dsimp only
     refine hK.out _ _ hH2 (fun hHeld => ?_)
     clear hK K hH2
     try simp only [Act.put, zA, zB, zC, zD, zE, zF]
     refine wpAnyH_take (i := 5) (v := .tuple #[.agg (ccells X).toArray, .agg (ccells Y).toArray, .int .i64 c]) rfl (by kernel_rfl) (by kernel_rfl) (by kernel_rfl) (fun _ _ _ ⟨_, _, h, _⟩ => nomatch h) (Or.inl ⟨by rfl, fun w _ => by go_simp⟩) (by assumption) ?_
     try simp only [Act.put, zA, zB, zC, zD, zE, zF]
     refine wpAnyH_take (i := 6) (v := .agg (ccells X).toArray) rfl (by kernel_rfl) (by kernel_rfl) (by kernel_rfl) (fun _ _ _ ⟨_, _, h, _⟩ => nomatch h) (Or.inl ⟨by rfl, fun w _ => by go_simp⟩) (by assumption) ?_
     try simp only [Act.put, zA, zB, zC, zD, zE, zF]
     refine wpAnyH_take (i := 7) (v := .agg (ccells Y).toArray) rfl (by kernel_rfl) (by kernel_rfl) (by kernel_rfl) (fun _ _ _ ⟨_, _, h, _⟩ => nomatch h) (Or.inl ⟨by rfl, fun w _ => by go_simp⟩) (by assumption) ?_
     try simp only [Act.put, zA, zB, zC, zD, zE, zF]
     refine wpAnyH_take (i := 8) (v := .int .i64 c) rfl (by kernel_rfl) (by kernel_rfl) (by kernel_rfl) (fun _ _ _ ⟨_, _, h, _⟩ => nomatch h) (Or.inl ⟨by rfl, fun w _ => by go_simp⟩) (by assumption) ?_
     try simp only [Act.put, zA, zB, zC, zD, zE, zF]
     have HNE : Hid (N9 ≠ N10) := by have := hNE.out; show N9 ≠ N10; omega
     refine wpAnyH_ready (rs := [11]) (by kernel_rfl) (by simp) ?_
     refine AllReadyH.cons rfl (fun K hK => ?_) AllReadyH.nil
     refine if_wanted rfl (wp_store_row 31 (.tmp 8) (.tmp 26) rfl N9 (ccells X).toArray rfl rfl 31 _ B9.out (size_of_crate Tryd.sizeCr _ HX.out.1) (by show (ccells noB).toArray.size = _; rw [ccells_size _ HX.out.1]; rfl) (ccells_one _) ?_)
     refine hK.out _ _ (Below.setRow hHeld _ _ H9.out) (fun hHeld => ?_)
     clear hK K
     try simp only [Act.put, zA, zB, zC]
     refine wpAnyH_ready (rs := [12]) (by kernel_rfl) (by simp) ?_
     refine AllReadyH.cons rfl (fun K hK => ?_) AllReadyH.nil
     refine if_wanted rfl (wp_store_row 31 (.tmp 9) (.tmp 27) rfl N10 (ccells Y).toArray rfl rfl 31 _ (B10.out.rowOff (fun e => HNE.out e.symm) _) (size_of_crate Tryd.sizeCr _ HY.out.1) (by show (ccells noB).toArray.size = _; rw [ccells_size _ HY.out.1]; rfl) (ccells_one _) ?_)
     refine hK.out _ _ (Below.setRow hHeld _ _ H10.out) (fun hHeld => ?_)
     clear hK K
     try simp only [Act.put, zA, zB, zC]
     refine wpAnyH_ready (rs := [13]) (by kernel_rfl) (by simp) ?_
     refine AllReadyH.cons rfl (fun K hK => ?_) AllReadyH.nil
     refine if_wanted rfl ?_
     refine wp_assign0 rfl rfl ?_
     refine hK.out _ _ hHeld (fun hHeld => ?_)
     clear hK K
     try simp only [Act.put, zA, zB, zC, zD, zE, zF]
     exact wpAnyH_done (by kernel_rfl) ⟨N9, N10, rfl, rfl, (CBlk.setRow (Y := X) B9.out).rowOff HNE.out _, CBlk.setRow (Y := Y) (B10.out.rowOff (fun e => HNE.out e.symm) _), hHeld⟩ _
    refine AllReadyH.cons rfl (fun K hK => ?_) AllReadyH.nil
    refine if_wanted rfl ?_
    go_simp
    have bn : CBlk (D0.alloc (.cells #[.int .u8 0, .int .i16 0, .int .u8 0, .int .i16 0, .int .u8 0, .int .i16 0, .int .u8 0, .int .i16 0, .int .u8 0, .int .i16 0, .int .u8 0, .int .i16 0, .int .u8 0, .int .i16 0, .int .u8 0, .int .i16 0, .int .u8 0, .int .i16 0, .int .u8 0, .int .i16 0, .int .u8 0, .int .i16 0, .int .u8 0, .int .i16 0] 31)) D0.heap.size 31 noB := CBlk.new' rfl rfl
    have hn : w1.heap.size ≤ D0.heap.size := hHeld.size
    have hH2 : Below w1.heap.size w1 (D0.alloc (.cells #[.int .u8 0, .int .i16 0, .int .u8 0, .int .i16 0, .int .u8 0, .int .i16 0, .int .u8 0, .int .i16 0, .int .u8 0, .int .i16 0, .int .u8 0, .int .i16 0, .int .u8 0, .int .i16 0, .int .u8 0, .int .i16 0, .int .u8 0, .int .i16 0, .int .u8 0, .int .i16 0, .int .u8 0, .int .i16 0, .int .u8 0, .int .i16 0] 31)) := hHeld.alloc hHeld.size _
    obtain ⟨x50, hx⟩ : ∃ x, D0.alloc (.cells #[.int .u8 0, .int .i16 0, .int .u8 0, .int .i16 0, .int .u8 0, .int .i16 0, .int .u8 0, .int .i16 0, .int .u8 0, .int .i16 0, .int .u8 0, .int .i16 0, .int .u8 0, .int .i16 0, .int .u8 0, .int .i16 0, .int .u8 0, .int .i16 0, .int .u8 0, .int .i16 0, .int .u8 0, .int .i16 0, .int .u8 0, .int .i16 0] 31) = x := ⟨_, rfl⟩
    obtain ⟨N10, hN⟩ : ∃ N, D0.heap.size = N := ⟨_, rfl⟩
    rw [hx] at hH2 bn ⊢
    rw [hN] at hn bn ⊢
    have B10 := Lib.hid bn
    have H10 := Lib.hid hn
    clear bn hn hx hN hHeld
    refine hK.out _ _ hH2 (fun hHeld => ?_)
    clear hK K hH2
    try simp only [Act.put, zA, zB, zC, zD, zE, zF]
    refine wpAnyH_ready (rs := [1, 9]) (by kernel_rfl) (by simp) ?_
    refine AllReadyH.cons rfl (fun K hK => ?_) ?_
    ·skip
     refine if_wanted rfl ?_
     go_simp
     refine (toCrate_any a HA.out.1 _).mono ?_
     rintro e x51 ⟨rfl, hb⟩
     have hH2 : Below w1.heap.size w1 x51 := hHeld.trans (hb.mono hHeld.size)
     have C10 : Hid (CBlk x51 N10 31 noB) := B10.out.below hb B10.out.lt
     clear B10
     have B10 := C10
     clear C10
     clear hb hHeld
     dsimp only
     refine hK.out _ _ hH2 (fun hHeld => ?_)
     clear hK K hH2
     try simp only [Act.put, zA, zB, zC, zD, zE, zF]
     refine wpAnyH_ready (rs := [3, 9]) (by kernel_rfl) (by simp) ?_
     refine AllReadyH.cons rfl (fun K hK => ?_) ?_
     ·skip
      refine if_wanted rfl ?_
      go_simp
      refine (toCrate_any b HB.out.1 _).mono ?_
      rintro e x52 ⟨rfl, hb⟩
      have hH2 : Below w1.heap.size w1 x52 := hHeld.trans (hb.mono hHeld.size)
      have C10 : Hid (CBlk x52 N10 31 noB) := B10.out.below hb B10.out.lt
      clear B10
      have B10 := C10
      clear C10
      clear hb hHeld
      dsimp only
      refine hK.out _ _ hH2 (fun hHeld => ?_)
      clear hK K hH2
      try simp only [Act.put, zA, zB, zC, zD, zE, zF]
      refine wpAnyH_ready (rs := [4, 9]) (by kernel_rfl) (by simp) ?_
      refine AllReadyH.cons rfl (fun K hK => ?_) ?_
      ·skip
       refine if_wanted rfl ?_
       go_simp
       refine (HI.out ad _ (HE.out.below (I3.out.trans (hHeld.mono I3.out.size)) (Nat.le_refl _))).mono ?_
       rintro e x53 ⟨rfl, hb⟩
       have hH2 : Below w1.heap.size w1 x53 := hHeld.trans (hb.mono hHeld.size)
       have C10 : Hid (CBlk x53 N10 31 noB) := B10.out.below hb B10.out.lt
       clear B10
       have B10 := C10
       clear C10
       clear hb hHeld
       dsimp only
       refine hK.out _ _ hH2 (fun hHeld => ?_)
       clear hK K hH2
       try simp only [Act.put, zA, zB, zC, zD, zE, zF]
       refine wpAnyH_take (i := 5) (v := .tuple #[.agg (ccells X).toArray, .agg (ccells Y).toArray, .int .i64 c]) rfl (by kernel_rfl) (by kernel_rfl) (by kernel_rfl) (fun _ _ _ ⟨_, _, h, _⟩ => nomatch h) (Or.inl ⟨by rfl, fun w _ => by go_simp⟩) (by assumption) ?_
       try simp only [Act.put, zA, zB, zC, zD, zE, zF]
       refine wpAnyH_take (i := 6) (v := .agg (ccells X).toArray) rfl (by kernel_rfl) (by kernel_rfl) (by kernel_rfl) (fun _ _ _ ⟨_, _, h, _⟩ => nomatch h) (Or.inl ⟨by rfl, fun w _ => by go_simp⟩) (by assumption) ?_
       try simp only [Act.put, zA, zB, zC, zD, zE, zF]
       refine wpAnyH_take (i := 7) (v := .agg (ccells Y).toArray) rfl (by kernel_rfl) (by kernel_rfl) (by kernel_rfl) (fun _ _ _ ⟨_, _, h, _⟩ => nomatch h) (Or.inl ⟨by rfl, fun w _ => by go_simp⟩) (by assumption) ?_
       try simp only [Act.put, zA, zB, zC, zD, zE, zF]
       refine wpAnyH_take (i := 8) (v := .int .i64 c) rfl (by kernel_rfl) (by kernel_rfl) (by kernel_rfl) (fun _ _ _ ⟨_, _, h, _⟩ => nomatch h) (Or.inl ⟨by rfl, fun w _ => by go_simp⟩) (by assumption) ?_
       try simp only [Act.put, zA, zB, zC, zD, zE, zF]
       refine wpAnyH_ready (rs := [9]) (by kernel_rfl) (by simp) ?_
       refine AllReadyH.cons rfl (fun K hK => ?_) AllReadyH.nil
       refine if_wanted rfl ?_
       go_simp
       have bn : CBlk (x53.alloc (.cells #[.int .u8 0, .int .i16 0, .int .u8 0, .int .i16 0, .int .u8 0, .int .i16 0, .int .u8 0, .int .i16 0, .int .u8 0, .int .i16 0, .int .u8 0, .int .i16 0, .int .u8 0, .int .i16 0, .int .u8 0, .int .i16 0, .int .u8 0, .int .i16 0, .int .u8 0, .int .i16 0, .int .u8 0, .int .i16 0, .int .u8 0, .int .i16 0] 31)) x53.heap.size 31 noB := CBlk.new' rfl rfl
       have hn : w1.heap.size ≤ x53.heap.size := hHeld.size
       have hH2 : Below w1.heap.size w1 (x53.alloc (.cells #[.int .u8 0, .int .i16 0, .int .u8 0, .int .i16 0, .int .u8 0, .int .i16 0, .int .u8 0, .int .i16 0, .int .u8 0, .int .i16 0, .int .u8 0, .int .i16 0, .int .u8 0, .int .i16 0, .int .u8 0, .int .i16 0, .int .u8 0, .int .i16 0, .int .u8 0, .int .i16 0, .int .u8 0, .int .i16 0, .int .u8 0, .int .i16 0] 31)) := hHeld.alloc hHeld.size _
       have C10 : Hid (CBlk (x53.alloc (.cells #[.int .u8 0, .int .i16 0, .int .u8 0, .int .i16 0, .int .u8 0, .int .i16 0, .int .u8 0, .int .i16 0, .int .u8 0, .int .i16 0, .int .u8 0, .int .i16 0, .int .u8 0, .int .i16 0, .int .u8 0, .int .i16 0, .int .u8 0, .int .i16 0, .int .u8 0, .int .i16 0, .int .u8 0, .int .i16 0, .int .u8 0, .int .i16 0] 31)) N10 31 noB) := B10.out.alloc _
       have hNE0 : N10 < x53.heap.size := B10.out.lt
       clear B10
       obtain ⟨x54, hx⟩ : ∃ x, x53.alloc (.cells #[.int .u8 0, .int .i16 0, .int .u8 0, .int .i16 0, .int .u8 0, .int .i16 0, .int .u8 0, .int .i16 0, .int .u8 0, .int .i16 0, .int .u8 0, .int .i16 0, .int .u8 0, .int .i16 0, .int .u8 0, .int .i16 0, .int .u8 0, .int .i16 0, .int .u8 0, .int .i16 0, .int .u8 0, .int .i16 0, .int .u8 0, .int .i16 0] 31) = x := ⟨_, rfl⟩
       obtain ⟨N9, hN⟩ : ∃ N, x53.heap.size = N := ⟨_, rfl⟩
       rw [hx] at hH2 bn C10 ⊢
       rw [hN] at hn bn hNE0 ⊢
       have B10 := C10
       clear C10
       have hNE := Lib.hid hNE0
       clear hNE0
       have B9 := Lib.hid bn
       have H9 := Lib.hid hn
       clear bn hn hx hN hHeld
       refine hK.out _ _ hH2 (fun hHeld => ?_)
       clear hK K hH2
       try simp only [Act.put, zA, zB, zC, zD, zE, zF]
       have HNE : Hid (N9 ≠ N10) := by have := hNE.out; show N9 ≠ N10; omega
       refine wpAnyH_ready (rs := [11]) (by kernel_rfl) (by simp) ?_
       refine AllReadyH.cons rfl (fun K hK => ?_) AllReadyH.nil
       refine if_wanted rfl (wp_store_row 31 (.tmp 8) (.tmp 26) rfl N9 (ccells X).toArray rfl rfl 31 _ B9.out (size_of_crate Tryd.sizeCr _ HX.out.1) (by show (ccells noB).toArray.size = _; rw [ccells_size _ HX.out.1]; rfl) (ccells_one _) ?_)
       refine hK.out _ _ (Below.setRow hHeld _ _ H9.out) (fun hHeld => ?_)
       clear hK K
       try simp only [Act.put, zA, zB, zC]
       refine wpAnyH_ready (rs := [12]) (by kernel_rfl) (by simp) ?_
       refine AllReadyH.cons rfl (fun K hK => ?_) AllReadyH.nil
       refine if_wanted rfl (wp_store_row 31 (.tmp 9) (.tmp 27) rfl N10 (ccells Y).toArray rfl rfl 31 _ (B10.out.rowOff (fun e => HNE.out e.symm) _) (size_of_crate Tryd.sizeCr _ HY.out.1) (by show (ccells noB).toArray.size = _; rw [ccells_size _ HY.out.1]; rfl) (ccells_one _) ?_)
       refine hK.out _ _ (Below.setRow hHeld _ _ H10.out) (fun hHeld => ?_)
       clear hK K
       try simp only [Act.put, zA, zB, zC]
       refine wpAnyH_ready (rs := [13]) (by kernel_rfl) (by simp) ?_
       refine AllReadyH.cons rfl (fun K hK => ?_) AllReadyH.nil
       refine if_wanted rfl ?_
       refine wp_assign0 rfl rfl ?_
       refine hK.out _ _ hHeld (fun hHeld => ?_)
       clear hK K
       try simp only [Act.put, zA, zB, zC, zD, zE, zF]
       exact wpAnyH_done (by kernel_rfl) ⟨N9, N10, rfl, rfl, (CBlk.setRow (Y := X) B9.out).rowOff HNE.out _, CBlk.setRow (Y := Y) (B10.out.rowOff (fun e => HNE.out e.symm) _), hHeld⟩ _
      refine AllReadyH.cons rfl (fun K hK => ?_) AllReadyH.nil
      refine if_wanted rfl ?_
      go_simp
      have bn : CBlk (x52.alloc (.cells #[.int .u8 0, .int .i16 0, .int .u8 0, .int .i16 0, .int .u8 0, .int .i16 0, .int .u8 0, .int .i16 0, .int .u8 0, .int .i16 0, .int .u8 0, .int .i16 0, .int .u8 0, .int .i16 0, .int .u8 0, .int .i16 0, .int .u8 0, .int .i16 0, .int .u8 0, .int .i16 0, .int .u8 0, .int .i16 0, .int .u8 0, .int .i16 0] 31)) x52.heap.size 31 noB := CBlk.new' rfl rfl
      have hn : w1.heap.size ≤ x52.heap.size := hHeld.size
      have hH2 : Below w1.heap.size w1 (x52.alloc (.cells #[.int .u8 0, .int .i16 0, .int .u8 0, .int .i16 0, .int .u8 0, .int .i16 0, .int .u8 0, .int .i16 0, .int .u8 0, .int .i16 0, .int .u8 0, .int .i16 0, .int .u8 0, .int .i16 0, .int .u8 0, .int .i16 0, .int .u8 0, .int .i16 0, .int .u8 0, .int .i16 0, .int .u8 0, .int .i16 0, .int .u8 0, .int .i16 0] 31)) := hHeld.alloc hHeld.size _
      have C10 : Hid (CBlk (x52.alloc (.cells #[.int .u8 0, .int .i16 0, .int .u8 0, .int .i16 0, .int .u8 0, .int .i16 0, .int .u8 0, .int .i16 0, .int .u8 0, .int .i16 0, .int .u8 0, .int .i16 0, .int .u8 0, .int .i16 0, .int .u8 0, .int .i16 0, .int .u8 0, .int .i16 0, .int .u8 0, .int .i16 0, .int .u8 0, .int .i16 0, .int .u8 0, .int .i16 0] 31)) N10 31 noB) := B10.out.alloc _
      have hNE0 : N10 < x52.heap.size := B10.out.lt
      clear B10
      obtain ⟨x55, hx⟩ : ∃ x, x52.alloc (.cells #[.int .u8 0, .int .i16 0, .int .u8 0, .int .i16 0, .int .u8 0, .int .i16 0, .int .u8 0, .int .i16 0, .int .u8 0, .int .i16 0, .int .u8 0, .int .i16 0, .int .u8 0, .int .i16 0, .int .u8 0, .int .i16 0, .int .u8 0, .int .i16 0, .int .u8 0, .int .i16 0, .int .u8 0, .int .i16 0, .int .u8 0, .int .i16 0] 31) = x := ⟨_, rfl⟩
      obtain ⟨N9, hN⟩ : ∃ N, x52.heap.size = N := ⟨_, rfl⟩
      rw [hx] at hH2 bn C10 ⊢
      rw [hN] at hn bn hNE0 ⊢
      have B10 := C10
      clear C10
      have hNE := Lib.hid hNE0
      clear hNE0
      have B9 := Lib.hid bn
      have H9 := Lib.hid hn
      clear bn hn hx hN hHeld
      refine hK.out _ _ hH2 (fun hHeld => ?_)
      clear hK K hH2
      try simp only [Act.put, zA, zB, zC, zD, zE, zF]
      refine wpAnyH_ready (rs := [4]) (by kernel_rfl) (by simp) ?_
      refine AllReadyH.cons rfl (fun K hK => ?_) AllReadyH.nil
      refine if_wanted rfl ?_
      go_simp
      refine (HI.out ad _ (HE.out.below (I3.out.trans (hHeld.mono I3.out.size)) (Nat.le_refl _))).mono ?_
      rintro e x56 ⟨rfl, hb⟩
      have hH2 : Below w1.heap.size w1 x56 := hHeld.trans (hb.mono hHeld.size)
      have C10 : Hid (CBlk x56 N10 31 noB) := B10.out.below hb B10.out.lt
      clear B10
      have B10 := C10
      clear C10
      have C9 : Hid (CBlk x56 N9 31 noB) := B9.out.below hb B9.out.lt
      clear B9
      have B9 := C9
      clear C9
      clear hb hHeld
      dsimp only
      refine hK.out _ _ hH2 (fun hHeld => ?_)
      clear hK K hH2
      try simp only [Act.put, zA, zB, zC, zD, zE, zF]
      refine wpAnyH_take (i := 5) (v := .tuple #[.agg (ccells X).toArray, .agg (ccells Y).toArray, .int .i64 c]) rfl (by kernel_rfl) (by kernel_rfl) (by kernel_rfl) (fun _ _ _ ⟨_, _, h, _⟩ => nomatch h) (Or.inl ⟨by rfl, fun w _ => by go_simp⟩) (by assumption) ?_
      try simp only [Act.put, zA, zB, zC, zD, zE, zF]
      refine wpAnyH_take (i := 6) (v := .agg (ccells X).toArray) rfl (by kernel_rfl) (by kernel_rfl) (by kernel_rfl) (fun _ _ _ ⟨_, _, h, _⟩ => nomatch h) (Or.inl ⟨by rfl, fun w _ => by go_simp⟩) (by assumption) ?_
      try simp only [Act.put, zA, zB, zC, zD, zE, zF]
      refine wpAnyH_take (i := 7) (v := .agg (ccells Y).toArray) rfl (by kernel_rfl) (by kernel_rfl) (by kernel_rfl) (fun _ _ _ ⟨_, _, h, _⟩ => nomatch h) (Or.inl ⟨by rfl, fun w _ => by go_simp⟩) (by assumption) ?_
      try simp only [Act.put, zA, zB, zC, zD, zE, zF]
      refine wpAnyH_take (i := 8) (v := .int .i64 c) rfl (by kernel_rfl) (by kernel_rfl) (by kernel_rfl) (fun _ _ _ ⟨_, _, h, _⟩ => nomatch h) (Or.inl ⟨by rfl, fun w _ => by go_simp⟩) (by assumption) ?_
      try simp only [Act.put, zA, zB, zC, zD, zE, zF]
      have HNE : Hid (N9 ≠ N10) := by have := hNE.out; show N9 ≠ N10; omega
      refine wpAnyH_ready (rs := [11]) (by kernel_rfl) (by simp) ?_
      refine AllReadyH.cons rfl (fun K hK => ?_) AllReadyH.nil
      refine if_wanted rfl (wp_store_row 31 (.tmp 8) (.tmp 26) rfl N9 (ccells X).toArray rfl rfl 31 _ B9.out (size_of_crate Tryd.sizeCr _ HX.out.1) (by show (ccells noB).toArray.size = _; rw [ccells_size _ HX.out.1]; rfl) (ccells_one _) ?_)
      refine hK.out _ _ (Below.setRow hHeld _ _ H9.out) (fun hHeld => ?_)
      clear hK K
      try simp only [Act.put, zA, zB, zC]
      refine wpAnyH_ready (rs := [12]) (by kernel_rfl) (by simp) ?_
      refine AllReadyH.cons rfl (fun K hK => ?_) AllReadyH.nil
      refine if_wanted rfl (wp_store_row 31 (.tmp 9) (.tmp 27) rfl N10 (ccells Y).toArray rfl rfl 31 _ (B10.out.rowOff (fun e => HNE.out e.symm) _) (size_of_crate Tryd.sizeCr _ HY.out.1) (by show (ccells noB).toArray.size = _; rw [ccells_size _ HY.out.1]; rfl) (ccells_one _) ?_)
      refine hK.out _ _ (Below.setRow hHeld _ _ H10.out) (fun hHeld => ?_)
      clear hK K
      try simp only [Act.put, zA, zB, zC]
      refine wpAnyH_ready (rs := [13]) (by kernel_rfl) (by simp) ?_
      refine AllReadyH.cons rfl (fun K hK => ?_) AllReadyH.nil
      refine if_wanted rfl ?_
      refine wp_assign0 rfl rfl ?_
      refine hK.out _ _ hHeld (fun hHeld => ?_)
      clear hK K
      try simp only [Act.put, zA, zB, zC, zD, zE, zF]
      exact wpAnyH_done (by kernel_rfl) ⟨N9, N10, rfl, rfl, (CBlk.setRow (Y := X) B9.out).rowOff HNE.out _, CBlk.setRow (Y := Y) (B10.out.rowOff (fun e => HNE.out e.symm) _), hHeld⟩ _
     refine AllReadyH.cons rfl (fun K hK => ?_) AllReadyH.nil
     refine if_wanted rfl ?_
     go_simp
     have bn : CBlk (x51.alloc (.cells #[.int .u8 0, .int .i16 0, .int .u8 0, .int .i16 0, .int .u8 0, .int .i16 0, .int .u8 0, .int .i16 0, .int .u8 0, .int .i16 0, .int .u8 0, .int .i16 0, .int .u8 0, .int .i16 0, .int .u8 0, .int .i16 0, .int .u8 0, .int .i16 0, .int .u8 0, .int .i16 0, .int .u8 0, .int .i16 0, .int .u8 0, .int .i16 0] 31)) x51.heap.size 31 noB := CBlk.new' rfl rfl
     have hn : w1.heap.size ≤ x51.heap.size := hHeld.size
     have hH2 : Below w1.heap.size w1 (x51.alloc (.cells #[.int .u8 0, .int .i16 0, .int .u8 0, .int .i16 0, .int .u8 0, .int .i16 0, .int .u8 0, .int .i16 0, .int .u8 0, .int .i16 0, .int .u8 0, .int .i16 0, .int .u8 0, .int .i16 0, .int .u8 0, .int .i16 0, .int .u8 0, .int .i16 0, .int .u8 0, .int .i16 0, .int .u8 0, .int .i16 0, .int .u8 0, .int .i16 0] 31)) := hHeld.alloc hHeld.size _
     have C10 : Hid (CBlk (x51.alloc (.cells #[.int .u8 0, .int .i16 0, .int .u8 0, .int .i16 0, .int .u8 0, .int .i16 0, .int .u8 0, .int .i16 0, .int .u8 0, .int .i16 0, .int .u8 0, .int .i16 0, .int .u8 0, .int .i16 0, .int .u8 0, .int .i16 0, .int .u8 0, .int .i16 0, .int .u8 0, .int .i16 0, .int .u8 0, .int .i16 0, .int .u8 0, .int .i16 0] 31)) N10 31 noB) := B10.out.alloc _
     have hNE0 : N10 < x51.heap.size := B10.out.lt
     clear B10
     obtain ⟨x57, hx⟩ : ∃ x, x51.alloc (.cells #[.int .u8 0, .int .i16 0, .int .u8 0, .int .i16 0, .int .u8 0, .int .i16 0, .int .u8 0, .int .i16 0, .int .u8 0, .int .i16 0, .int .u8 0, .int .i16 0, .int .u8 0, .int .i16 0, .int .u8 0, .int .i16 0, .int .u8 0, .int .i16 0, .int .u8 0, .int .i16 0, .int .u8 0, .int .i16 0, .int .u8 0, .int .i16 0] 31) = x := ⟨_, rfl⟩
     obtain ⟨N9, hN⟩ : ∃ N, x51.heap.size = N := ⟨_, rfl⟩
     rw [hx] at hH2 bn C10 ⊢
     rw [hN] at hn bn hNE0 ⊢
     have B10 := C10
     clear C10
     have hNE := Lib.hid hNE0
     clear hNE0
     have B9 := Lib.hid bn
     have H9 := Lib.hid hn
     clear bn hn hx hN hHeld
     refine hK.out _ _ hH2 (fun hHeld => ?_)
     clear hK K hH2
     try simp only [Act.put, zA, zB, zC, zD, zE, zF]
     refine wpAnyH_ready (rs := [3]) (by kernel_rfl) (by simp) ?_
     refine AllReadyH.cons rfl (fun K hK => ?_) AllReadyH.nil
     refine if_wanted rfl ?_
     go_simp
     refine (toCrate_any b HB.out.1 _).mono ?_
     rintro e x58 ⟨rfl, hb⟩
     have hH2 : Below w1.heap.size w1 x58 := hHeld.trans (hb.mono hHeld.size)
     have C10 : Hid (CBlk x58 N10 31 noB) := B10.out.below hb B10.out.lt
     clear B10
     have B10 := C10
     clear C10
     have C9 : Hid (CBlk x58 N9 31 noB) := B9.out.below hb B9.out.lt
     clear B9
     have B9 := C9
     clear C9
     clear hb hHeld
     dsimp only
     refine hK.out _ _ hH2 (fun hHeld => ?_)
     clear hK K hH2
     try simp only [Act.put, zA, zB, zC, zD, zE, zF]
     refine wpAnyH_ready (rs := [4]) (by kernel_rfl) (by simp) ?_
     refine AllReadyH.cons rfl (fun K hK => ?_) AllReadyH.nil
     refine if_wanted rfl ?_
     go_simp
     refine (HI.out ad _ (HE.out.below (I3.out.trans (hHeld.mono I3.out.size)) (Nat.le_refl _))).mono ?_
     rintro e x59 ⟨rfl, hb⟩
     have hH2 : Below w1.heap.size w1 x59 := hHeld.trans (hb.mono hHeld.size)
     have C10 : Hid (CBlk x59 N10 31 noB) := B10.out.below hb B10.out.lt
     clear B10
     have B10 := C10
     clear C10
     have C9 : Hid (CBlk x59 N9 31 noB) := B9.out.below hb B9.out.lt
     clear B9
     have B9 := C9
     clear C9
     clear hb hHeld
     dsimp only
     refine hK.out _ _ hH2 (fun hHeld => ?_)
     clear hK K hH2
     try simp only [Act.put, zA, zB, zC, zD, zE, zF]
     refine wpAnyH_take (i := 5) (v := .tuple #[.agg (ccells X).toArray, .agg (ccells Y).toArray, .int .i64 c]) rfl (by kernel_rfl) (by kernel_rfl) (by kernel_rfl) (fun _ _ _ ⟨_, _, h, _⟩ => nomatch h) (Or.inl ⟨by rfl, fun w _ => by go_simp⟩) (by assumption) ?_
     try simp only [Act.put, zA, zB, zC, zD, zE, zF]
     refine wpAnyH_take (i := 6) (v := .agg (ccells X).toArray) rfl (by kernel_rfl) (by kernel_rfl) (by kernel_rfl) (fun _ _ _ ⟨_, _, h, _⟩ => nomatch h) (Or.inl ⟨by rfl, fun w _ => by go_simp⟩) (by assumption) ?_
     try simp only [Act.put, zA, zB, zC, zD, zE, zF]
     refine wpAnyH_take (i := 7) (v := .agg (ccells Y).toArray) rfl (by kernel_rfl) (by kernel_rfl) (by kernel_rfl) (fun _ _ _ ⟨_, _, h, _⟩ => nomatch h) (Or.inl ⟨by rfl, fun w _ => by go_simp⟩) (by assumption) ?_
     try simp only [Act.put, zA, zB, zC, zD, zE, zF]
     refine wpAnyH_take (i := 8) (v := .int .i64 c) rfl (by kernel_rfl) (by kernel_rfl) (by kernel_rfl) (fun _ _ _ ⟨_, _, h, _⟩ => nomatch h) (Or.inl ⟨by rfl, fun w _ => by go_simp⟩) (by assumption) ?_
     try simp only [Act.put, zA, zB, zC, zD, zE, zF]
     have HNE : Hid (N9 ≠ N10) := by have := hNE.out; show N9 ≠ N10; omega
     refine wpAnyH_ready (rs := [11]) (by kernel_rfl) (by simp) ?_
     refine AllReadyH.cons rfl (fun K hK => ?_) AllReadyH.nil
     refine if_wanted rfl (wp_store_row 31 (.tmp 8) (.tmp 26) rfl N9 (ccells X).toArray rfl rfl 31 _ B9.out (size_of_crate Tryd.sizeCr _ HX.out.1) (by show (ccells noB).toArray.size = _; rw [ccells_size _ HX.out.1]; rfl) (ccells_one _) ?_)
     refine hK.out _ _ (Below.setRow hHeld _ _ H9.out) (fun hHeld => ?_)
     clear hK K
     try simp only [Act.put, zA, zB, zC]
     refine wpAnyH_ready (rs := [12]) (by kernel_rfl) (by simp) ?_
     refine AllReadyH.cons rfl (fun K hK => ?_) AllReadyH.nil
     refine if_wanted rfl (wp_store_row 31 (.tmp 9) (.tmp 27) rfl N10 (ccells Y).toArray rfl rfl 31 _ (B10.out.rowOff (fun e => HNE.out e.symm) _) (size_of_crate Tryd.sizeCr _ HY.out.1) (by show (ccells noB).toArray.size = _; rw [ccells_size _ HY.out.1]; rfl) (ccells_one _) ?_)
     refine hK.out _ _ (Below.setRow hHeld _ _ H10.out) (fun hHeld => ?_)
     clear hK K
     try simp only [Act.put, zA, zB, zC]
     refine wpAnyH_ready (rs := [13]) (by kernel_rfl) (by simp) ?_
     refine AllReadyH.cons rfl (fun K hK => ?_) AllReadyH.nil
     refine if_wanted rfl ?_
     refine wp_assign0 rfl rfl ?_
     refine hK.out _ _ hHeld (fun hHeld => ?_)
     clear hK K
     try simp only [Act.put, zA, zB, zC, zD, zE, zF]
     exact wpAnyH_done (by kernel_rfl) ⟨N9, N10, rfl, rfl, (CBlk.setRow (Y := X) B9.out).rowOff HNE.out _, CBlk.setRow (Y := Y) (B10.out.rowOff (fun e => HNE.out e.symm) _), hHeld⟩ _
    refine AllReadyH.cons rfl (fun K hK => ?_) AllReadyH.nil
    refine if_wanted rfl ?_
    go_simp
    have bn : CBlk (x50.alloc (.cells #[.int .u8 0, .int .i16 0, .int .u8 0, .int .i16 0, .int .u8 0, .int .i16 0, .int .u8 0, .int .i16 0, .int .u8 0, .int .i16 0, .int .u8 0, .int .i16 0, .int .u8 0, .int .i16 0, .int .u8 0, .int .i16 0, .int .u8 0, .int .i16 0, .int .u8 0, .int .i16 0, .int .u8 0, .int .i16 0, .int .u8 0, .int .i16 0] 31)) x50.heap.size 31 noB := CBlk.new' rfl rfl
    have hn : w1.heap.size ≤ x50.heap.size := hHeld.size
    have hH2 : Below w1.heap.size w1 (x50.alloc (.cells #[.int .u8 0, .int .i16 0, .int .u8 0, .int .i16 0, .int .u8 0, .int .i16 0, .int .u8 0, .int .i16 0, .int .u8 0, .int .i16 0, .int .u8 0, .int .i16 0, .int .u8 0, .int .i16 0, .int .u8 0, .int .i16 0, .int .u8 0, .int .i16 0, .int .u8 0, .int .i16 0, .int .u8 0, .int .i16 0, .int .u8 0, .int .i16 0] 31)) := hHeld.alloc hHeld.size _
    have C10 : Hid (CBlk (x50.alloc (.cells #[.int .u8 0, .int .i16 0, .int .u8 0, .int .i16 0, .int .u8 0, .int .i16 0, .int .u8 0, .int .i16 0, .int .u8 0, .int .i16 0, .int .u8 0, .int .i16 0, .int .u8 0, .int .i16 0, .int .u8 0, .int .i16 0, .int .u8 0, .int .i16 0, .int .u8 0, .int .i16 0, .int .u8 0, .int .i16 0, .int .u8 0, .int .i16 0] 31)) N10 31 noB) := B10.out.alloc _
    have hNE0 : N10 < x50.heap.size := B10.out.lt
    clear B10
    obtain ⟨x60, hx⟩ : ∃ x, x50.alloc (.cells #[.int .u8 0, .int .i16 0, .int .u8 0, .int .i16 0, .int .u8 0, .int .i16 0, .int .u8 0, .int .i16 0, .int .u8 0, .int .i16 0, .int .u8 0, .int .i16 0, .int .u8 0, .int .i16 0, .int .u8 0, .int .i16 0, .int .u8 0, .int .i16 0, .int .u8 0, .int .i16 0, .int .u8 0, .int .i16 0, .int .u8 0, .int .i16 0] 31) = x := ⟨_, rfl⟩
    obtain ⟨N9, hN⟩ : ∃ N, x50.heap.size = N := ⟨_, rfl⟩
    rw [hx] at hH2 bn C10 ⊢
    rw [hN] at hn bn hNE0 ⊢
    have B10 := C10
    clear C10
    have hNE := Lib.hid hNE0
    clear hNE0
    have B9 := Lib.hid bn
    have H9 := Lib.hid hn
    clear bn hn hx hN hHeld
    refine hK.out _ _ hH2 (fun hHeld => ?_)
    clear hK K hH2
    try simp only [Act.put, zA, zB, zC, zD, zE, zF]
    refine wpAnyH_ready (rs := [1]) (by kernel_rfl) (by simp) ?_
    refine AllReadyH.cons rfl (fun K hK => ?_) AllReadyH.nil
    refine if_wanted rfl ?_
    go_simp
    refine (toCrate_any a HA.out.1 _).mono ?_
    rintro e x61 ⟨rfl, hb⟩
    have hH2 : Below w1.heap.size w1 x61 := hHeld.trans (hb.mono hHeld.size)
    have C10 : Hid (CBlk x61 N10 31 noB) := B10.out.below hb B10.out.lt
    clear B10
    have B10 := C10
    clear C10
    have C9 : Hid (CBlk x61 N9 31 noB) := B9.out.below hb B9.out.lt
    clear B9
    have B9 := C9
    clear C9
    clear hb hHeld
    dsimp only
    refine hK.out _ _ hH2 (fun hHeld => ?_)
    clear hK K hH2
    try simp only [Act.put, zA, zB, zC, zD, zE, zF]
    refine wpAnyH_ready (rs := [3]) (by kernel_rfl) (by simp) ?_
    refine AllReadyH.cons rfl (fun K hK => ?_) AllReadyH.nil
    refine if_wanted rfl ?_
    go_simp
    refine (toCrate_any b HB.out.1 _).mono ?_
    rintro e x62 ⟨rfl, hb⟩
    have hH2 : Below w1.heap.size w1 x62 := hHeld.trans (hb.mono hHeld.size)
    have C10 : Hid (CBlk x62 N10 31 noB) := B10.out.below hb B10.out.lt
    clear B10
    have B10 := C10
    clear C10
    have C9 : Hid (CBlk x62 N9 31 noB) := B9.out.below hb B9.out.lt
    clear B9
    have B9 := C9
    clear C9
    clear hb hHeld
    dsimp only
    refine hK.out _ _ hH2 (fun hHeld => ?_)
    clear hK K hH2
    try simp only [Act.put, zA, zB, zC, zD, zE, zF]
    refine wpAnyH_ready (rs := [4]) (by kernel_rfl) (by simp) ?_
    refine AllReadyH.cons rfl (fun K hK => ?_) AllReadyH.nil
    refine if_wanted rfl ?_
    go_simp
    refine (HI.out ad _ (HE.out.below (I3.out.trans (hHeld.mono I3.out.size)) (Nat.le_refl _))).mono ?_
    rintro e x63 ⟨rfl, hb⟩
    have hH2 : Below w1.heap.size w1 x63 := hHeld.trans (hb.mono hHeld.size)
    have C10 : Hid (CBlk x63 N10 31 noB) := B10.out.below hb B10.out.lt
    clear B10
    have B10 := C10
    clear C10
    have C9 : Hid (CBlk x63 N9 31 noB) := B9.out.below hb B9.out.lt
    clear B9
    have B9 := C9
    clear C9
    clear hb hHeld
    dsimp only
    refine hK.out _ _ hH2 (fun hHeld => ?_)
    clear hK K hH2
    try simp only [Act.put, zA, zB, zC, zD, zE, zF]
    refine wpAnyH_take (i := 5) (v := .tuple #[.agg (ccells X).toArray, .agg (ccells Y).toArray, .int .i64 c]) rfl (by kernel_rfl) (by kernel_rfl) (by kernel_rfl) (fun _ _ _ ⟨_, _, h, _⟩ => nomatch h) (Or.inl ⟨by rfl, fun w _ => by go_simp⟩) (by assumption) ?_
    try simp only [Act.put, zA, zB, zC, zD, zE, zF]
    refine wpAnyH_take (i := 6) (v := .agg (ccells X).toArray) rfl (by kernel_rfl) (by kernel_rfl) (by kernel_rfl) (fun _ _ _ ⟨_, _, h, _⟩ => nomatch h) (Or.inl ⟨by rfl, fun w _ => by go_simp⟩) (by assumption) ?_
    try simp only [Act.put, zA, zB, zC, zD, zE, zF]
    refine wpAnyH_take (i := 7) (v := .agg (ccells Y).toArray) rfl (by kernel_rfl) (by kernel_rfl) (by kernel_rfl) (fun _ _ _ ⟨_, _, h, _⟩ => nomatch h) (Or.inl ⟨by rfl, fun w _ => by go_simp⟩) (by assumption) ?_
    try simp only [Act.put, zA, zB, zC, zD, zE, zF]
    refine wpAnyH_take (i := 8) (v := .int .i64 c) rfl (by kernel_rfl) (by kernel_rfl) (by kernel_rfl) (fun _ _ _ ⟨_, _, h, _⟩ => nomatch h) (Or.inl ⟨by rfl, fun w _ => by go_simp⟩) (by assumption) ?_
    try simp only [Act.put, zA, zB, zC, zD, zE, zF]
    have HNE : Hid (N9 ≠ N10) := by have := hNE.out; show N9 ≠ N10; omega
    refine wpAnyH_ready (rs := [11]) (by kernel_rfl) (by simp) ?_
    refine AllReadyH.cons rfl (fun K hK => ?_) AllReadyH.nil
    refine if_wanted rfl (wp_store_row 31 (.tmp 8) (.tmp 26) rfl N9 (ccells X).toArray rfl rfl 31 _ B9.out (size_of_crate Tryd.sizeCr _ HX.out.1) (by show (ccells noB).toArray.size = _; rw [ccells_size _ HX.out.1]; rfl) (ccells_one _) ?_)
    refine hK.out _ _ (Below.setRow hHeld _ _ H9.out) (fun hHeld => ?_)
    clear hK K
    try simp only [Act.put, zA, zB, zC]
    refine wpAnyH_ready (rs := [12]) (by kernel_rfl) (by simp) ?_
    refine AllReadyH.cons rfl (fun K hK => ?_) AllReadyH.nil
    refine if_wanted rfl (wp_store_row 31 (.tmp 9) (.tmp 27) rfl N10 (ccells Y).toArray rfl rfl 31 _ (B10.out.rowOff (fun e => HNE.out e.symm) _) (size_of_crate Tryd.sizeCr _ HY.out.1) (by show (ccells noB).toArray.size = _; rw [ccells_size _ HY.out.1]; rfl) (ccells_one _) ?_)
    refine hK.out _ _ (Below.setRow hHeld _ _ H10.out) (fun hHeld => ?_)
    clear hK K
    try simp only [Act.put, zA, zB, zC]
    refine wpAnyH_ready (rs := [13]) (by kernel_rfl) (by simp) ?_
    refine AllReadyH.cons rfl (fun K hK => ?_) AllReadyH.nil
    refine if_wanted rfl ?_
    refine wp_assign0 rfl rfl ?_
    refine hK.out _ _ hHeld (fun hHeld => ?_)
    clear hK K
    try simp only [Act.put, zA, zB, zC, zD, zE, zF]
    exact wpAnyH_done (by kernel_rfl) ⟨N9, N10, rfl, rfl, (CBlk.setRow (Y := X) B9.out).rowOff HNE.out _, CBlk.setRow (Y := Y) (B10.out.rowOff (fun e => HNE.out e.symm) _), hHeld⟩ _
  rintro e a' w2 ⟨B3, B4, rfl, rfl, hC, hD, hb⟩
  have D1 : Hid (CBlk w2 B1 31 X) := C1.out.below hb C1.out.lt
  have D2 : Hid (CBlk w2 B2 31 Y) := C2.out.below hb C2.out.lt
  have D3 := Lib.hid hC
  have D4 := Lib.hid hD
  have J3 : Hid (Below w.heap.size w w2) := I3.out.trans (hb.mono I3.out.size)
  clear hC hD hb
  go_wp2_with (first
    | (refine wpList_load_row rfl 31 (.tmp 8) rfl B3 rfl 31 _ (0, 0) _ D3.out Tryd.underlying31 rfl (size_of_crate Tryd.sizeCr _ HX.out.1) ?_)
    | (refine wpList_load_row rfl 31 (.tmp 5) rfl B1 rfl 31 _ (0, 0) _ D1.out Tryd.underlying31 rfl (size_of_crate Tryd.sizeCr _ HX.out.1) ?_))
  refine (eqCrate_same X HX.out _).mono ?_
  rintro e w5 ⟨rfl, hb5⟩
  have H5 : Hid (Below w.heap.size w w5) := J3.out.trans (hb5.mono J3.out.size)
  have E2 : Hid (CBlk w5 B2 31 Y) := D2.out.below hb5 D2.out.lt
  have E4 : Hid (CBlk w5 B4 31 Y) := D4.out.below hb5 D4.out.lt
  clear hb5
  go_wp2_with (first
    | (refine wpList_load_row_g (by rfl) 31 (.tmp 9) rfl B4 rfl 31 _ (0, 0) _ E4.out Tryd.underlying31 rfl (size_of_crate Tryd.sizeCr _ HY.out.1) ?_)
    | (refine wpList_load_row_g (by rfl) 31 (.tmp 6) rfl B2 rfl 31 _ (0, 0) _ E2.out Tryd.underlying31 rfl (size_of_crate Tryd.sizeCr _ HY.out.1) ?_))
  refine (eqCrate_same Y HY.out _).mono ?_
  rintro e w6 ⟨rfl, hb6⟩
  have H6 : Hid (Below w.heap.size w w6) := H5.out.trans (hb6.mono H5.out.size)
  clear hb6
  go_wp2
  go_ret
  exact ⟨rfl, H6.out⟩


set_option maxRecDepth 100000 in
theorem fnExactFillFrom_lifted (os : Os) (started : os.Started) (H : Type) (enc : TypeId × Value → H) :
    ReturnsInHanded {} Tryd.checked os 5 .any (fun w args => (Rows.fnExactFillFromSpec.pre enc Tryd.prog Tryd.f5 Rows.fnExactFillFromRow.domain false w args ∧ laidMetH Tryd.prog (lay sl7) w) ∧ sizedMet enc Tryd.prog Tryd.f5 (OpenSpec.ofChange Rows.fnExactFillFromSpec) false w args)
      (Rows.fnExactFillFromSpec.post enc Tryd.prog Tryd.f5 false true false false) := by
  refine law_liftL (C := Tryd.checked) 2 7 Tryd.own started (by kernel_rfl) Tryd.func5
    (ChangeSpec.witness_shaped (enc := enc) (C := Tryd.checked) (os := os) (X := fun w _ => laidMetH Tryd.prog (lay sl7) w) false (World.doorLaid Tryd.prog 142 os) #[.agg #[.int .u8 0, .int .i16 0, .int .u8 0, .int .i16 0, .int .u8 0, .int .i16 0, .int .u8 0, .int .i16 0, .int .u8 0, .int .i16 0, .int .u8 0, .int .i16 0, .int .u8 0, .int .i16 0, .int .u8 0, .int .i16 0, .int .u8 0, .int .i16 0, .int .u8 0, .int .i16 0, .int .u8 0, .int .i16 0, .int .u8 0, .int .i16 0], .agg #[.int .u8 0, .int .i16 0, .int .u8 0, .int .i16 0, .int .u8 0, .int .i16 0, .int .u8 0, .int .i16 0, .int .u8 0, .int .i16 0, .int .u8 0, .int .i16 0, .int .u8 0, .int .i16 0, .int .u8 0, .int .i16 0, .int .u8 0, .int .i16 0, .int .u8 0, .int .i16 0, .int .u8 0, .int .i16 0, .int .u8 0, .int .i16 0]] 8 rfl (World.shaped_of_RefB (by kernel_rfl) (by kernel_rfl)) (by kernel_rfl) (by kernel_rfl) (by kernel_rfl)
      (laidMetH_of_parts3 (fuel := 8) (laidMet_of_run' 8 (by kernel_rfl) (by kernel_rfl)) (by kernel_rfl) (by kernel_rfl)))
    Tryd.laidOut (by kernel_rfl) rfl (by kernel_rfl) Tryd.underlying4 (by kernel_rfl) (by kernel_rfl)
    (fun ds gs h h' => by match ds, gs, h, h' with | [d1, d2], [g1, g2, g3, g4, g5, g6, g7], _, _ => rfl) ?_
  intro W base args ds p hL hval hA
  rw [Tryd.params5] at hA hval
  obtain ⟨v0, v1, d0, d1, r0, r1, rfl, rfl, rfl, h0, h1⟩ := trodAll_two hA
  obtain ⟨a, hl, rfl, hwf⟩ := open_crate (n := 12) Tryd.underlying25 (by kernel_rfl) Tryd.underlying24 Tryd.underlying5 Tryd.underlying22 (by kernel_rfl) (by kernel_rfl) (hval 0 25 v0 rfl rfl) h0
  obtain ⟨b, hl2, rfl, hwf2⟩ := open_crate (n := 12) Tryd.underlying25 (by kernel_rfl) Tryd.underlying24 Tryd.underlying5 Tryd.underlying22 (by kernel_rfl) (by kernel_rfl) (hval 1 25 v1 rfl rfl) h1
  obtain ⟨ad, hE⟩ := ew7_of hL
  exact fillLaw_gen a b ⟨hl, hwf⟩ ⟨hl2, hwf2⟩ _ _ (fiX_wf ⟨hl, hwf⟩ ⟨hl2, hwf2⟩) (fiY_wf ⟨hl2, hwf2⟩) _ (fun w => specFill_any a b ⟨hl, hwf⟩ ⟨hl2, hwf2⟩ w) (fun ad w hE => implFill_any a b ⟨hl, hwf⟩ ⟨hl2, hwf2⟩ ad w hE) ad W hE

theorem fnExactFillFrom_row : Rows.FnExactFillFromSaid :=
  OpenClaim.holds_of_wide 5 Tryd.f5 rfl rfl rfl rfl rfl rfl rfl ⟨rfl, rfl, rfl, rfl, rfl⟩ rfl rfl rfl rfl rfl (by kernel_rfl) Tryd.func5 (by kernel_rfl)
    (of_decide_eq_true (by kernel_rfl)) (by unfold Func.isWrapper; rw [if_neg (of_decide_eq_false (by kernel_rfl))]; exact ⟨rfl, rfl⟩)
    (fun os started H enc _ => fnExactFillFrom_lifted os started H enc)

theorem fnExactFillFrom_card : Rows.FnExactFillFromCardSaid :=
  Claim7.holds_tied_plain_at .later [] [.sentinel, .sentinel, .sentinel, .sentinel, .sentinel, .sentinel, .sentinel] true (true, "aa23a033a8e744bf7b99e382bf9d4012d49c67373f322863939fa64812dc9c06") true
    fnExactFillFrom_row (fun _ h => by cases h) (by kernel_rfl) (fun _ h => by cases h) fnExactFillFrom_row_tie rfl ⟨rfl, rfl⟩ (by kernel_rfl) rfl
    (fun f fn hf hfn => by
      obtain rfl : f = 5 := Option.some.inj ((show Tryd.prog.funcNamed "loop.example/g01353/laws.FnExactFillFrom" = some 5 by kernel_rfl).symm.trans hf) |>.symm
      obtain rfl : fn = Tryd.f5 := (Option.some.inj (Tryd.func5.symm.trans hfn)).symm
      exact ⟨by kernel_rfl, fun j t ht => by
        have hm : t ∈ Tryd.f5.params.toList := Array.mem_toList_iff.2 (Array.mem_of_getElem? ht)
        have hall : (Tryd.f5.params.toList.all fun u => !Tryd.prog.wantsStandIn u) = true := by kernel_rfl
        exact (show Tryd.prog.wantsStandIn t = false by simpa using List.all_eq_true.1 hall t hm)⟩)
    (by kernel_rfl)
#print axioms fnExactFillFrom_card
end Go.Proofs.YtjiihdljchaeiaeDoor
