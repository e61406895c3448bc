/-
  FnExactTurnCrate: for every crate the law returns true, and its argument reads as before. No condition but that the sentinel errors hold what the program's text lays (tied).
-/
import Derived.Test.YtjiihdljchaeiaeDoorCards
import Derived.Test.YtjiihdljchaeiaeDoorTie
import Derived.Test.YtjiihdljchaeiaeDoorG
import Derived.Test.YtjiihdljchaeiaeDoorR
import Derived.Test.YtjiihdljchaeiaeDoorS
import Derived.SevenTiedAt
namespace Go.Proofs.YtjiihdljchaeiaeDoor
open Go.ChangeShapes Go.WideShapes Go.ChangeAt Go.RowKit

theorem Tryd.sizeLc : (Tryd.prog.info? 25).map (·.size) = some 24 := by kernel_rfl
theorem wf_noB : WfC noB := ⟨rfl, by intro b hb; simp [noB] at hb; subst hb; simp [wfB]⟩
theorem wf_Y (bs : List Bot) (h : WfC bs) : WfC (bs.reverse) := ⟨by rw [List.length_reverse]; exact h.1, fun b hb => h.2 b (List.mem_reverse.1 hb)⟩

set_option maxRecDepth 100000 in
set_option maxHeartbeats 1000000 in
theorem turnLaw_bad (bs : List Bot) (hwf : WfC bs) (ad : Nat → Addr) (w : World) (hE : EW 7 w ad) (hok : okC bs = false) : Calls Tryd.prog 6 #[.agg (ccells bs).toArray] w (Good w) := by
  have HW := Lib.hid hwf
  have HE := Lib.hid hE
  have Hok := Lib.hid hok
  have HY : Hid (WfC noB) := wf_noB
  clear hwf hE hok
  obtain ⟨Y, hY⟩ : ∃ Y, noB = Y := ⟨_, rfl⟩
  have HYe := Lib.hid hY
  have HY2 : Hid (WfC Y) := by show WfC Y; rw [← hY]; exact HY.out
  clear hY HY
  have HA := Lib.hid (CBlk.new w 25 bs)
  have HB0 : Hid (Below w.heap.size w (w.alloc (.cells (ccells bs).toArray 25))) := (Below.refl _ w).alloc (Nat.le_refl _) _
  go_enter Tryd.func6, Tryd.ntmps6
  go_wp2_with (refine wpList_load_row rfl 25 (.tmp 1) rfl w.heap.size rfl 25 _ (0, 0) _ HA.out Tryd.underlying25 rfl (size_of_crate Tryd.sizeLc _ HW.out.1) ?_)
  refine (toCrate_any bs HW.out.1 _).mono ?_
  rintro e w1 ⟨rfl, hb1⟩
  have H1 : Hid (Below w.heap.size w w1) := HB0.out.trans (hb1.mono HB0.out.size)
  have HA1 : Hid (CBlk w1 w.heap.size 25 bs) := HA.out.below hb1 HA.out.lt
  clear hb1 HA HB0
  go_wp2_with fail
  refine (specTurn_any bs HW.out _).mono ?_
  rintro e w2 ⟨rfl, hb2⟩
  have H2 : Hid (Below w.heap.size w w2) := H1.out.trans (hb2.mono H1.out.size)
  have HA2 : Hid (CBlk w2 w.heap.size 25 bs) := HA1.out.below hb2 HA1.out.lt
  clear hb2 H1 HA1
  rw [Hok.out]
  have hV : turnV bs false = .tuple #[.agg (ccells Y).toArray, .int .i64 1] := by rw [← HYe.out]; rfl
  rw [hV]
  clear hV
  have C0 : Hid (CBlk (w2.alloc (.cells #[.int .u8 0, .int .i16 0, .int .u8 0, .int .i16 0, .int .u8 0, .int .i16 0, .int .u8 0, .int .i16 0, .int .u8 0, .int .i16 0, .int .u8 0, .int .i16 0, .int .u8 0, .int .i16 0, .int .u8 0, .int .i16 0, .int .u8 0, .int .i16 0, .int .u8 0, .int .i16 0, .int .u8 0, .int .i16 0, .int .u8 0, .int .i16 0] 31)) w2.heap.size 31 noB) := CBlk.new' rfl rfl
  have C1 : Hid (CBlk ((w2.alloc (.cells #[.int .u8 0, .int .i16 0, .int .u8 0, .int .i16 0, .int .u8 0, .int .i16 0, .int .u8 0, .int .i16 0, .int .u8 0, .int .i16 0, .int .u8 0, .int .i16 0, .int .u8 0, .int .i16 0, .int .u8 0, .int .i16 0, .int .u8 0, .int .i16 0, .int .u8 0, .int .i16 0, .int .u8 0, .int .i16 0, .int .u8 0, .int .i16 0] 31)).setRow w2.heap.size (ccells Y).toArray) w2.heap.size 31 Y) := C0.out.setRow
  have C2 : Hid (CBlk ((w2.alloc (.cells #[.int .u8 0, .int .i16 0, .int .u8 0, .int .i16 0, .int .u8 0, .int .i16 0, .int .u8 0, .int .i16 0, .int .u8 0, .int .i16 0, .int .u8 0, .int .i16 0, .int .u8 0, .int .i16 0, .int .u8 0, .int .i16 0, .int .u8 0, .int .i16 0, .int .u8 0, .int .i16 0, .int .u8 0, .int .i16 0, .int .u8 0, .int .i16 0] 31)).setRow w2.heap.size (ccells Y).toArray) w.heap.size 25 bs) := by
    refine Eq.trans (setRow_other _ _ _ _ ?_) (CBlk.alloc HA2.out _)
    have := HA2.out.lt; omega
  have C3 : Hid (Below w.heap.size w ((w2.alloc (.cells #[.int .u8 0, .int .i16 0, .int .u8 0, .int .i16 0, .int .u8 0, .int .i16 0, .int .u8 0, .int .i16 0, .int .u8 0, .int .i16 0, .int .u8 0, .int .i16 0, .int .u8 0, .int .i16 0, .int .u8 0, .int .i16 0, .int .u8 0, .int .i16 0, .int .u8 0, .int .i16 0, .int .u8 0, .int .i16 0, .int .u8 0, .int .i16 0] 31)).setRow w2.heap.size (ccells Y).toArray)) := Below.setRow (H2.out.alloc H2.out.size _) _ _ H2.out.size
  have C4 : Hid (w2.heap.size < ((w2.alloc (.cells #[.int .u8 0, .int .i16 0, .int .u8 0, .int .i16 0, .int .u8 0, .int .i16 0, .int .u8 0, .int .i16 0, .int .u8 0, .int .i16 0, .int .u8 0, .int .i16 0, .int .u8 0, .int .i16 0, .int .u8 0, .int .i16 0, .int .u8 0, .int .i16 0, .int .u8 0, .int .i16 0, .int .u8 0, .int .i16 0, .int .u8 0, .int .i16 0] 31)).setRow w2.heap.size (ccells Y).toArray).heap.size) := C1.out.lt
  go_wp2_with (first
    | (refine wpList_store_row rfl 31 (.tmp 3) (.tmp 11) rfl w2.heap.size _ rfl rfl 31 _ C0.out (size_of_crate Tryd.sizeCr _ HY2.out.1) (by rw [ccells_size _ HY2.out.1]; rfl) (ccells_one _) ?_)
    | (refine wpList_load_row rfl 25 (.tmp 1) rfl w.heap.size rfl 25 _ (0, 0) _ C2.out Tryd.underlying25 rfl (size_of_crate Tryd.sizeLc _ HW.out.1) ?_))
  refine (toCrate_any bs HW.out.1 _).mono ?_
  rintro e w3 ⟨rfl, hb3⟩
  have H3 : Hid (Below w.heap.size w w3) := C3.out.trans (hb3.mono C3.out.size)
  have D1 : Hid (CBlk w3 w2.heap.size 31 Y) := C1.out.below hb3 C4.out
  clear hb3
  go_wp2_with fail
  refine (implTurn_any bs HW.out ad _ (HE.out.below H3.out (Nat.le_refl _))).mono ?_
  rintro e w4 ⟨rfl, hb4⟩
  have H4 : Hid (Below w.heap.size w w4) := H3.out.trans (hb4.mono H3.out.size)
  have E1 : Hid (CBlk w4 w2.heap.size 31 Y) := D1.out.below hb4 D1.out.lt
  clear hb4 C0 C1 C2 C3 C4 D1 H3
  rw [Hok.out]
  have hV : turnV bs false = .tuple #[.agg (ccells Y).toArray, .int .i64 1] := by rw [← HYe.out]; rfl
  rw [hV]
  clear hV
  have F0 : Hid (CBlk (w4.alloc (.cells #[.int .u8 0, .int .i16 0, .int .u8 0, .int .i16 0, .int .u8 0, .int .i16 0, .int .u8 0, .int .i16 0, .int .u8 0, .int .i16 0, .int .u8 0, .int .i16 0, .int .u8 0, .int .i16 0, .int .u8 0, .int .i16 0, .int .u8 0, .int .i16 0, .int .u8 0, .int .i16 0, .int .u8 0, .int .i16 0, .int .u8 0, .int .i16 0] 31)) w4.heap.size 31 noB) := CBlk.new' rfl rfl
  have F1 : Hid (CBlk ((w4.alloc (.cells #[.int .u8 0, .int .i16 0, .int .u8 0, .int .i16 0, .int .u8 0, .int .i16 0, .int .u8 0, .int .i16 0, .int .u8 0, .int .i16 0, .int .u8 0, .int .i16 0, .int .u8 0, .int .i16 0, .int .u8 0, .int .i16 0, .int .u8 0, .int .i16 0, .int .u8 0, .int .i16 0, .int .u8 0, .int .i16 0, .int .u8 0, .int .i16 0] 31)).setRow w4.heap.size (ccells Y).toArray) w4.heap.size 31 Y) := F0.out.setRow
  have F2 : Hid (CBlk ((w4.alloc (.cells #[.int .u8 0, .int .i16 0, .int .u8 0, .int .i16 0, .int .u8 0, .int .i16 0, .int .u8 0, .int .i16 0, .int .u8 0, .int .i16 0, .int .u8 0, .int .i16 0, .int .u8 0, .int .i16 0, .int .u8 0, .int .i16 0, .int .u8 0, .int .i16 0, .int .u8 0, .int .i16 0, .int .u8 0, .int .i16 0, .int .u8 0, .int .i16 0] 31)).setRow w4.heap.size (ccells Y).toArray) w2.heap.size 31 Y) := by
    refine Eq.trans (setRow_other _ _ _ _ ?_) (CBlk.alloc E1.out _)
    have := E1.out.lt; omega
  have F3 : Hid (Below w.heap.size w ((w4.alloc (.cells #[.int .u8 0, .int .i16 0, .int .u8 0, .int .i16 0, .int .u8 0, .int .i16 0, .int .u8 0, .int .i16 0, .int .u8 0, .int .i16 0, .int .u8 0, .int .i16 0, .int .u8 0, .int .i16 0, .int .u8 0, .int .i16 0, .int .u8 0, .int .i16 0, .int .u8 0, .int .i16 0, .int .u8 0, .int .i16 0, .int .u8 0, .int .i16 0] 31)).setRow w4.heap.size (ccells Y).toArray)) := Below.setRow (H4.out.alloc H4.out.size _) _ _ H4.out.size
  go_wp2_with (first
    | (refine wpList_store_row rfl 31 (.tmp 5) (.tmp 17) rfl w4.heap.size _ rfl rfl 31 _ F0.out (size_of_crate Tryd.sizeCr _ HY2.out.1) (by rw [ccells_size _ HY2.out.1]; rfl) (ccells_one _) ?_)
    | (refine wpList_load_row rfl 31 (.tmp 5) rfl w4.heap.size rfl 31 _ (0, 0) _ F1.out Tryd.underlying31 rfl (size_of_crate Tryd.sizeCr _ HY2.out.1) ?_)
    | (refine wpList_load_row rfl 31 (.tmp 3) rfl w2.heap.size rfl 31 _ (0, 0) _ F2.out Tryd.underlying31 rfl (size_of_crate Tryd.sizeCr _ HY2.out.1) ?_))
  refine (eqCrate_same Y HY2.out _).mono ?_
  rintro e w5 ⟨rfl, hb5⟩
  have H5 : Hid (Below w.heap.size w w5) := F3.out.trans (hb5.mono F3.out.size)
  clear hb5
  go_wp2
  go_ret
  exact ⟨rfl, H5.out⟩

set_option maxRecDepth 100000 in
set_option maxHeartbeats 1000000 in
theorem turnLaw_good (bs : List Bot) (hwf : WfC bs) (ad : Nat → Addr) (w : World) (hE : EW 7 w ad) (hok : okC bs = true) : Calls Tryd.prog 6 #[.agg (ccells bs).toArray] w (Good w) := by
  have HW := Lib.hid hwf
  have HE := Lib.hid hE
  have Hok := Lib.hid hok
  have HY : Hid (WfC (bs.reverse)) := wf_Y bs hwf
  clear hwf hE hok
  obtain ⟨Y, hY⟩ : ∃ Y, (bs.reverse) = Y := ⟨_, rfl⟩
  have HYe := Lib.hid hY
  have HY2 : Hid (WfC Y) := by show WfC Y; rw [← hY]; exact HY.out
  clear hY HY
  have HA := Lib.hid (CBlk.new w 25 bs)
  have HB0 : Hid (Below w.heap.size w (w.alloc (.cells (ccells bs).toArray 25))) := (Below.refl _ w).alloc (Nat.le_refl _) _
  go_enter Tryd.func6, Tryd.ntmps6
  go_wp2_with (refine wpList_load_row rfl 25 (.tmp 1) rfl w.heap.size rfl 25 _ (0, 0) _ HA.out Tryd.underlying25 rfl (size_of_crate Tryd.sizeLc _ HW.out.1) ?_)
  refine (toCrate_any bs HW.out.1 _).mono ?_
  rintro e w1 ⟨rfl, hb1⟩
  have H1 : Hid (Below w.heap.size w w1) := HB0.out.trans (hb1.mono HB0.out.size)
  have HA1 : Hid (CBlk w1 w.heap.size 25 bs) := HA.out.below hb1 HA.out.lt
  clear hb1 HA HB0
  go_wp2_with fail
  refine (specTurn_any bs HW.out _).mono ?_
  rintro e w2 ⟨rfl, hb2⟩
  have H2 : Hid (Below w.heap.size w w2) := H1.out.trans (hb2.mono H1.out.size)
  have HA2 : Hid (CBlk w2 w.heap.size 25 bs) := HA1.out.below hb2 HA1.out.lt
  clear hb2 H1 HA1
  rw [Hok.out]
  have hV : turnV bs true = .tuple #[.agg (ccells Y).toArray, .int .i64 0] := by rw [← HYe.out]; rfl
  rw [hV]
  clear hV
  have C0 : Hid (CBlk (w2.alloc (.cells #[.int .u8 0, .int .i16 0, .int .u8 0, .int .i16 0, .int .u8 0, .int .i16 0, .int .u8 0, .int .i16 0, .int .u8 0, .int .i16 0, .int .u8 0, .int .i16 0, .int .u8 0, .int .i16 0, .int .u8 0, .int .i16 0, .int .u8 0, .int .i16 0, .int .u8 0, .int .i16 0, .int .u8 0, .int .i16 0, .int .u8 0, .int .i16 0] 31)) w2.heap.size 31 noB) := CBlk.new' rfl rfl
  have C1 : Hid (CBlk ((w2.alloc (.cells #[.int .u8 0, .int .i16 0, .int .u8 0, .int .i16 0, .int .u8 0, .int .i16 0, .int .u8 0, .int .i16 0, .int .u8 0, .int .i16 0, .int .u8 0, .int .i16 0, .int .u8 0, .int .i16 0, .int .u8 0, .int .i16 0, .int .u8 0, .int .i16 0, .int .u8 0, .int .i16 0, .int .u8 0, .int .i16 0, .int .u8 0, .int .i16 0] 31)).setRow w2.heap.size (ccells Y).toArray) w2.heap.size 31 Y) := C0.out.setRow
  have C2 : Hid (CBlk ((w2.alloc (.cells #[.int .u8 0, .int .i16 0, .int .u8 0, .int .i16 0, .int .u8 0, .int .i16 0, .int .u8 0, .int .i16 0, .int .u8 0, .int .i16 0, .int .u8 0, .int .i16 0, .int .u8 0, .int .i16 0, .int .u8 0, .int .i16 0, .int .u8 0, .int .i16 0, .int .u8 0, .int .i16 0, .int .u8 0, .int .i16 0, .int .u8 0, .int .i16 0] 31)).setRow w2.heap.size (ccells Y).toArray) w.heap.size 25 bs) := by
    refine Eq.trans (setRow_other _ _ _ _ ?_) (CBlk.alloc HA2.out _)
    have := HA2.out.lt; omega
  have C3 : Hid (Below w.heap.size w ((w2.alloc (.cells #[.int .u8 0, .int .i16 0, .int .u8 0, .int .i16 0, .int .u8 0, .int .i16 0, .int .u8 0, .int .i16 0, .int .u8 0, .int .i16 0, .int .u8 0, .int .i16 0, .int .u8 0, .int .i16 0, .int .u8 0, .int .i16 0, .int .u8 0, .int .i16 0, .int .u8 0, .int .i16 0, .int .u8 0, .int .i16 0, .int .u8 0, .int .i16 0] 31)).setRow w2.heap.size (ccells Y).toArray)) := Below.setRow (H2.out.alloc H2.out.size _) _ _ H2.out.size
  have C4 : Hid (w2.heap.size < ((w2.alloc (.cells #[.int .u8 0, .int .i16 0, .int .u8 0, .int .i16 0, .int .u8 0, .int .i16 0, .int .u8 0, .int .i16 0, .int .u8 0, .int .i16 0, .int .u8 0, .int .i16 0, .int .u8 0, .int .i16 0, .int .u8 0, .int .i16 0, .int .u8 0, .int .i16 0, .int .u8 0, .int .i16 0, .int .u8 0, .int .i16 0, .int .u8 0, .int .i16 0] 31)).setRow w2.heap.size (ccells Y).toArray).heap.size) := C1.out.lt
  go_wp2_with (first
    | (refine wpList_store_row rfl 31 (.tmp 3) (.tmp 11) rfl w2.heap.size _ rfl rfl 31 _ C0.out (size_of_crate Tryd.sizeCr _ HY2.out.1) (by rw [ccells_size _ HY2.out.1]; rfl) (ccells_one _) ?_)
    | (refine wpList_load_row rfl 25 (.tmp 1) rfl w.heap.size rfl 25 _ (0, 0) _ C2.out Tryd.underlying25 rfl (size_of_crate Tryd.sizeLc _ HW.out.1) ?_))
  refine (toCrate_any bs HW.out.1 _).mono ?_
  rintro e w3 ⟨rfl, hb3⟩
  have H3 : Hid (Below w.heap.size w w3) := C3.out.trans (hb3.mono C3.out.size)
  have D1 : Hid (CBlk w3 w2.heap.size 31 Y) := C1.out.below hb3 C4.out
  clear hb3
  go_wp2_with fail
  refine (implTurn_any bs HW.out ad _ (HE.out.below H3.out (Nat.le_refl _))).mono ?_
  rintro e w4 ⟨rfl, hb4⟩
  have H4 : Hid (Below w.heap.size w w4) := H3.out.trans (hb4.mono H3.out.size)
  have E1 : Hid (CBlk w4 w2.heap.size 31 Y) := D1.out.below hb4 D1.out.lt
  clear hb4 C0 C1 C2 C3 C4 D1 H3
  rw [Hok.out]
  have hV : turnV bs true = .tuple #[.agg (ccells Y).toArray, .int .i64 0] := by rw [← HYe.out]; rfl
  rw [hV]
  clear hV
  have F0 : Hid (CBlk (w4.alloc (.cells #[.int .u8 0, .int .i16 0, .int .u8 0, .int .i16 0, .int .u8 0, .int .i16 0, .int .u8 0, .int .i16 0, .int .u8 0, .int .i16 0, .int .u8 0, .int .i16 0, .int .u8 0, .int .i16 0, .int .u8 0, .int .i16 0, .int .u8 0, .int .i16 0, .int .u8 0, .int .i16 0, .int .u8 0, .int .i16 0, .int .u8 0, .int .i16 0] 31)) w4.heap.size 31 noB) := CBlk.new' rfl rfl
  have F1 : Hid (CBlk ((w4.alloc (.cells #[.int .u8 0, .int .i16 0, .int .u8 0, .int .i16 0, .int .u8 0, .int .i16 0, .int .u8 0, .int .i16 0, .int .u8 0, .int .i16 0, .int .u8 0, .int .i16 0, .int .u8 0, .int .i16 0, .int .u8 0, .int .i16 0, .int .u8 0, .int .i16 0, .int .u8 0, .int .i16 0, .int .u8 0, .int .i16 0, .int .u8 0, .int .i16 0] 31)).setRow w4.heap.size (ccells Y).toArray) w4.heap.size 31 Y) := F0.out.setRow
  have F2 : Hid (CBlk ((w4.alloc (.cells #[.int .u8 0, .int .i16 0, .int .u8 0, .int .i16 0, .int .u8 0, .int .i16 0, .int .u8 0, .int .i16 0, .int .u8 0, .int .i16 0, .int .u8 0, .int .i16 0, .int .u8 0, .int .i16 0, .int .u8 0, .int .i16 0, .int .u8 0, .int .i16 0, .int .u8 0, .int .i16 0, .int .u8 0, .int .i16 0, .int .u8 0, .int .i16 0] 31)).setRow w4.heap.size (ccells Y).toArray) w2.heap.size 31 Y) := by
    refine Eq.trans (setRow_other _ _ _ _ ?_) (CBlk.alloc E1.out _)
    have := E1.out.lt; omega
  have F3 : Hid (Below w.heap.size w ((w4.alloc (.cells #[.int .u8 0, .int .i16 0, .int .u8 0, .int .i16 0, .int .u8 0, .int .i16 0, .int .u8 0, .int .i16 0, .int .u8 0, .int .i16 0, .int .u8 0, .int .i16 0, .int .u8 0, .int .i16 0, .int .u8 0, .int .i16 0, .int .u8 0, .int .i16 0, .int .u8 0, .int .i16 0, .int .u8 0, .int .i16 0, .int .u8 0, .int .i16 0] 31)).setRow w4.heap.size (ccells Y).toArray)) := Below.setRow (H4.out.alloc H4.out.size _) _ _ H4.out.size
  go_wp2_with (first
    | (refine wpList_store_row rfl 31 (.tmp 5) (.tmp 17) rfl w4.heap.size _ rfl rfl 31 _ F0.out (size_of_crate Tryd.sizeCr _ HY2.out.1) (by rw [ccells_size _ HY2.out.1]; rfl) (ccells_one _) ?_)
    | (refine wpList_load_row rfl 31 (.tmp 5) rfl w4.heap.size rfl 31 _ (0, 0) _ F1.out Tryd.underlying31 rfl (size_of_crate Tryd.sizeCr _ HY2.out.1) ?_)
    | (refine wpList_load_row rfl 31 (.tmp 3) rfl w2.heap.size rfl 31 _ (0, 0) _ F2.out Tryd.underlying31 rfl (size_of_crate Tryd.sizeCr _ HY2.out.1) ?_))
  refine (eqCrate_same Y HY2.out _).mono ?_
  rintro e w5 ⟨rfl, hb5⟩
  have H5 : Hid (Below w.heap.size w w5) := F3.out.trans (hb5.mono F3.out.size)
  clear hb5
  go_wp2
  go_ret
  exact ⟨rfl, H5.out⟩

theorem turnLaw_any (bs : List Bot) (hwf : WfC bs) (ad : Nat → Addr) (w : World) (hE : EW 7 w ad) : Calls Tryd.prog 6 #[.agg (ccells bs).toArray] w (Good w) := by
  cases h : okC bs
  · exact turnLaw_bad bs hwf ad w hE h
  · exact turnLaw_good bs hwf ad w hE h

set_option maxRecDepth 100000 in
theorem fnExactTurnCrate_lifted (os : Os) (started : os.Started) (H : Type) (enc : TypeId × Value → H) :
    ReturnsInHanded {} Tryd.checked os 6 .any (fun w args => (Rows.fnExactTurnCrateSpec.pre enc Tryd.prog Tryd.f6 Rows.fnExactTurnCrateRow.domain false w args ∧ laidMetH Tryd.prog (lay sl7) w) ∧ sizedMet enc Tryd.prog Tryd.f6 (OpenSpec.ofChange Rows.fnExactTurnCrateSpec) false w args)
      (Rows.fnExactTurnCrateSpec.post enc Tryd.prog Tryd.f6 false true false false) := by
  refine law_liftL (C := Tryd.checked) 1 7 Tryd.own started (by kernel_rfl) Tryd.func6
    (ChangeSpec.witness_shaped (enc := enc) (C := Tryd.checked) (os := os) (X := fun w _ => laidMetH Tryd.prog (lay sl7) w) false (World.doorLaid Tryd.prog 142 os) #[.agg #[.int .u8 0, .int .i16 0, .int .u8 0, .int .i16 0, .int .u8 0, .int .i16 0, .int .u8 0, .int .i16 0, .int .u8 0, .int .i16 0, .int .u8 0, .int .i16 0, .int .u8 0, .int .i16 0, .int .u8 0, .int .i16 0, .int .u8 0, .int .i16 0, .int .u8 0, .int .i16 0, .int .u8 0, .int .i16 0, .int .u8 0, .int .i16 0]] 8 rfl (World.shaped_of_RefB (by kernel_rfl) (by kernel_rfl)) (by kernel_rfl) (by kernel_rfl) (by kernel_rfl)
      (laidMetH_of_parts3 (fuel := 8) (laidMet_of_run' 8 (by kernel_rfl) (by kernel_rfl)) (by kernel_rfl) (by kernel_rfl)))
    Tryd.laidOut (by kernel_rfl) rfl (by kernel_rfl) Tryd.underlying4 (by kernel_rfl) (by kernel_rfl)
    (fun ds gs h h' => by match ds, gs, h, h' with | [d1], [g1, g2, g3, g4, g5, g6, g7], _, _ => rfl) ?_
  intro W base args ds p hL hval hA
  rw [Tryd.params6] at hA hval
  obtain ⟨v0, d0, rfl, rfl, h0⟩ := trodAll_one hA
  obtain ⟨bs, hl, rfl, hwf⟩ := open_crate (n := 12) Tryd.underlying25 (by kernel_rfl) Tryd.underlying24 Tryd.underlying5 Tryd.underlying22 (by kernel_rfl) (by kernel_rfl) (hval 0 25 v0 rfl rfl) h0
  obtain ⟨ad, hE⟩ := ew7_of hL
  exact turnLaw_any bs ⟨hl, hwf⟩ ad W hE

theorem fnExactTurnCrate_row : Rows.FnExactTurnCrateSaid :=
  OpenClaim.holds_of_wide 6 Tryd.f6 rfl rfl rfl rfl rfl rfl rfl ⟨rfl, rfl, rfl, rfl, rfl⟩ rfl rfl rfl rfl rfl (by kernel_rfl) Tryd.func6 (by kernel_rfl)
    (of_decide_eq_true (by kernel_rfl)) (by unfold Func.isWrapper; rw [if_neg (of_decide_eq_false (by kernel_rfl))]; exact ⟨rfl, rfl⟩)
    (fun os started H enc _ => fnExactTurnCrate_lifted os started H enc)

theorem fnExactTurnCrate_card : Rows.FnExactTurnCrateCardSaid :=
  Claim7.holds_tied_plain_at .later [] [.sentinel, .sentinel, .sentinel, .sentinel, .sentinel, .sentinel, .sentinel] true (true, "aa23a033a8e744bf7b99e382bf9d4012d49c67373f322863939fa64812dc9c06") true
    fnExactTurnCrate_row (fun _ h => by cases h) (by kernel_rfl) (fun _ h => by cases h) fnExactTurnCrate_row_tie rfl ⟨rfl, rfl⟩ (by kernel_rfl) rfl
    (fun f fn hf hfn => by
      obtain rfl : f = 6 := Option.some.inj ((show Tryd.prog.funcNamed "loop.example/g01353/laws.FnExactTurnCrate" = some 6 by kernel_rfl).symm.trans hf) |>.symm
      obtain rfl : fn = Tryd.f6 := (Option.some.inj (Tryd.func6.symm.trans hfn)).symm
      exact ⟨by kernel_rfl, fun j t ht => by
        have hm : t ∈ Tryd.f6.params.toList := Array.mem_toList_iff.2 (Array.mem_of_getElem? ht)
        have hall : (Tryd.f6.params.toList.all fun u => !Tryd.prog.wantsStandIn u) = true := by kernel_rfl
        exact (show Tryd.prog.wantsStandIn t = false by simpa using List.all_eq_true.1 hall t hm)⟩)
    (by kernel_rfl)
#print axioms fnExactTurnCrate_card
end Go.Proofs.YtjiihdljchaeiaeDoor
