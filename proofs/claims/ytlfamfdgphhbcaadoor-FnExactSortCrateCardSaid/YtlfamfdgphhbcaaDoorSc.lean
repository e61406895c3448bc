/-
  FnExactSortCrate: for every crate the law returns true, and its argument reads as before. No condition but that the sentinel errors hold what the program's text lays (tied).
-/
import Derived.Test.YtlfamfdgphhbcaaDoorCards
import Derived.Test.YtlfamfdgphhbcaaDoorTie
import Derived.Test.YtlfamfdgphhbcaaDoorG
import Derived.Test.YtlfamfdgphhbcaaDoorR
import Derived.Test.YtlfamfdgphhbcaaDoorScB
import Derived.Test.YtlfamfdgphhbcaaDoorScC
import Derived.SevenTiedAt
namespace Go.Proofs.YtlfamfdgphhbcaaDoor
open Go.ChangeShapes Go.WideShapes Go.ChangeAt Go.RowKit

theorem wf_noB : WfC noB := ⟨rfl, by intro b hb; simp [noB] at hb; subst hb; simp [wfB]⟩
theorem wf_Y (bs : List Bot) (h : WfC bs) : WfC (srtB bs) := ⟨srtB_len bs, fun b hb => by
  unfold srtB srtO at hb
  rcases List.mem_append.1 hb with hb | hb
  · have := (isL_perm _ _).mem_iff.1 (List.mem_of_mem_take hb)
    exact mem_allB h this
  · obtain ⟨-, rfl⟩ := List.mem_replicate.1 hb
    simp [wfB]⟩

set_option maxRecDepth 100000 in
set_option maxHeartbeats 1000000 in
theorem srtLaw_bad (bs : List Bot) (hwf : WfC bs) (ad : Nat → Addr) (w : World) (hE : EW 7 w ad) (hok : okC bs = false) : Calls Tryd.prog 4 #[.agg (ccells bs).toArray] w (Good w) := by
  have HW := Lib.hid hwf
  have HE := Lib.hid hE
  have Hok := Lib.hid hok
  have HY : Hid (WfC noB) := wf_noB
  clear hwf hE hok
  obtain ⟨Y, hY⟩ : ∃ Y, noB = Y := ⟨_, rfl⟩
  have HYe := Lib.hid hY
  have HY2 : Hid (WfC Y) := by show WfC Y; rw [← hY]; exact HY.out
  clear hY HY
  have HA := Lib.hid (CBlk.new w 33 bs)
  have HB0 : Hid (Below w.heap.size w (w.alloc (.cells (ccells bs).toArray 33))) := (Below.refl _ w).alloc (Nat.le_refl _) _
  go_enter Tryd.func4, Tryd.ntmps4
  go_wp2_with (refine wpList_load_row rfl 33 (.tmp 1) rfl w.heap.size rfl 33 _ (0, 0) _ HA.out Tryd.underlying33 rfl (size_of_crate Tryd.sizeLc _ HW.out.1) ?_)
  refine (toCrate_any bs HW.out.1 _).mono ?_
  rintro e w1 ⟨rfl, hb1⟩
  have H1 : Hid (Below w.heap.size w w1) := HB0.out.trans (hb1.mono HB0.out.size)
  have HA1 : Hid (CBlk w1 w.heap.size 33 bs) := HA.out.below hb1 HA.out.lt
  clear hb1 HA HB0
  go_wp2_with fail
  refine (specSortC_any bs HW.out _).mono ?_
  rintro e w2 ⟨rfl, hb2⟩
  have H2 : Hid (Below w.heap.size w w2) := H1.out.trans (hb2.mono H1.out.size)
  have HA2 : Hid (CBlk w2 w.heap.size 33 bs) := HA1.out.below hb2 HA1.out.lt
  clear hb2 H1 HA1
  rw [Hok.out]
  have hV : srtV bs false = .tuple #[.agg (ccells Y).toArray, .int .i64 1] := by rw [← HYe.out]; rfl
  rw [hV]
  clear hV
  have C0 : Hid (CBlk (w2.alloc (.cells #[.int .u8 0, .int .i16 0, .int .u8 0, .int .i16 0, .int .u8 0, .int .i16 0, .int .u8 0, .int .i16 0, .int .u8 0, .int .i16 0, .int .u8 0, .int .i16 0, .int .u8 0, .int .i16 0, .int .u8 0, .int .i16 0, .int .u8 0, .int .i16 0, .int .u8 0, .int .i16 0, .int .u8 0, .int .i16 0, .int .u8 0, .int .i16 0] 36)) w2.heap.size 36 noB) := CBlk.new' rfl rfl
  have C1 : Hid (CBlk ((w2.alloc (.cells #[.int .u8 0, .int .i16 0, .int .u8 0, .int .i16 0, .int .u8 0, .int .i16 0, .int .u8 0, .int .i16 0, .int .u8 0, .int .i16 0, .int .u8 0, .int .i16 0, .int .u8 0, .int .i16 0, .int .u8 0, .int .i16 0, .int .u8 0, .int .i16 0, .int .u8 0, .int .i16 0, .int .u8 0, .int .i16 0, .int .u8 0, .int .i16 0] 36)).setRow w2.heap.size (ccells Y).toArray) w2.heap.size 36 Y) := C0.out.setRow
  have C2 : Hid (CBlk ((w2.alloc (.cells #[.int .u8 0, .int .i16 0, .int .u8 0, .int .i16 0, .int .u8 0, .int .i16 0, .int .u8 0, .int .i16 0, .int .u8 0, .int .i16 0, .int .u8 0, .int .i16 0, .int .u8 0, .int .i16 0, .int .u8 0, .int .i16 0, .int .u8 0, .int .i16 0, .int .u8 0, .int .i16 0, .int .u8 0, .int .i16 0, .int .u8 0, .int .i16 0] 36)).setRow w2.heap.size (ccells Y).toArray) w.heap.size 33 bs) := by
    refine Eq.trans (setRow_other _ _ _ _ ?_) (CBlk.alloc HA2.out _)
    have := HA2.out.lt; omega
  have C3 : Hid (Below w.heap.size w ((w2.alloc (.cells #[.int .u8 0, .int .i16 0, .int .u8 0, .int .i16 0, .int .u8 0, .int .i16 0, .int .u8 0, .int .i16 0, .int .u8 0, .int .i16 0, .int .u8 0, .int .i16 0, .int .u8 0, .int .i16 0, .int .u8 0, .int .i16 0, .int .u8 0, .int .i16 0, .int .u8 0, .int .i16 0, .int .u8 0, .int .i16 0, .int .u8 0, .int .i16 0] 36)).setRow w2.heap.size (ccells Y).toArray)) := Below.setRow (H2.out.alloc H2.out.size _) _ _ H2.out.size
  have C4 : Hid (w2.heap.size < ((w2.alloc (.cells #[.int .u8 0, .int .i16 0, .int .u8 0, .int .i16 0, .int .u8 0, .int .i16 0, .int .u8 0, .int .i16 0, .int .u8 0, .int .i16 0, .int .u8 0, .int .i16 0, .int .u8 0, .int .i16 0, .int .u8 0, .int .i16 0, .int .u8 0, .int .i16 0, .int .u8 0, .int .i16 0, .int .u8 0, .int .i16 0, .int .u8 0, .int .i16 0] 36)).setRow w2.heap.size (ccells Y).toArray).heap.size) := C1.out.lt
  go_wp2_with (first
    | (refine wpList_store_row rfl 36 (.tmp 3) (.tmp 11) rfl w2.heap.size _ rfl rfl 36 _ C0.out (size_of_crate Tryd.sizeCr _ HY2.out.1) (by rw [ccells_size _ HY2.out.1]; rfl) (ccells_one _) ?_)
    | (refine wpList_load_row rfl 33 (.tmp 1) rfl w.heap.size rfl 33 _ (0, 0) _ C2.out Tryd.underlying33 rfl (size_of_crate Tryd.sizeLc _ HW.out.1) ?_))
  refine (toCrate_any bs HW.out.1 _).mono ?_
  rintro e w3 ⟨rfl, hb3⟩
  have H3 : Hid (Below w.heap.size w w3) := C3.out.trans (hb3.mono C3.out.size)
  have D1 : Hid (CBlk w3 w2.heap.size 36 Y) := C1.out.below hb3 C4.out
  clear hb3
  go_wp2_with fail
  refine (implSortC_any bs HW.out ad _ (HE.out.below H3.out (Nat.le_refl _))).mono ?_
  rintro e w4 ⟨rfl, hb4⟩
  have H4 : Hid (Below w.heap.size w w4) := H3.out.trans (hb4.mono H3.out.size)
  have E1 : Hid (CBlk w4 w2.heap.size 36 Y) := D1.out.below hb4 D1.out.lt
  clear hb4 C0 C1 C2 C3 C4 D1 H3
  rw [Hok.out]
  have hV : srtV bs false = .tuple #[.agg (ccells Y).toArray, .int .i64 1] := by rw [← HYe.out]; rfl
  rw [hV]
  clear hV
  have F0 : Hid (CBlk (w4.alloc (.cells #[.int .u8 0, .int .i16 0, .int .u8 0, .int .i16 0, .int .u8 0, .int .i16 0, .int .u8 0, .int .i16 0, .int .u8 0, .int .i16 0, .int .u8 0, .int .i16 0, .int .u8 0, .int .i16 0, .int .u8 0, .int .i16 0, .int .u8 0, .int .i16 0, .int .u8 0, .int .i16 0, .int .u8 0, .int .i16 0, .int .u8 0, .int .i16 0] 36)) w4.heap.size 36 noB) := CBlk.new' rfl rfl
  have F1 : Hid (CBlk ((w4.alloc (.cells #[.int .u8 0, .int .i16 0, .int .u8 0, .int .i16 0, .int .u8 0, .int .i16 0, .int .u8 0, .int .i16 0, .int .u8 0, .int .i16 0, .int .u8 0, .int .i16 0, .int .u8 0, .int .i16 0, .int .u8 0, .int .i16 0, .int .u8 0, .int .i16 0, .int .u8 0, .int .i16 0, .int .u8 0, .int .i16 0, .int .u8 0, .int .i16 0] 36)).setRow w4.heap.size (ccells Y).toArray) w4.heap.size 36 Y) := F0.out.setRow
  have F2 : Hid (CBlk ((w4.alloc (.cells #[.int .u8 0, .int .i16 0, .int .u8 0, .int .i16 0, .int .u8 0, .int .i16 0, .int .u8 0, .int .i16 0, .int .u8 0, .int .i16 0, .int .u8 0, .int .i16 0, .int .u8 0, .int .i16 0, .int .u8 0, .int .i16 0, .int .u8 0, .int .i16 0, .int .u8 0, .int .i16 0, .int .u8 0, .int .i16 0, .int .u8 0, .int .i16 0] 36)).setRow w4.heap.size (ccells Y).toArray) w2.heap.size 36 Y) := by
    refine Eq.trans (setRow_other _ _ _ _ ?_) (CBlk.alloc E1.out _)
    have := E1.out.lt; omega
  have F3 : Hid (Below w.heap.size w ((w4.alloc (.cells #[.int .u8 0, .int .i16 0, .int .u8 0, .int .i16 0, .int .u8 0, .int .i16 0, .int .u8 0, .int .i16 0, .int .u8 0, .int .i16 0, .int .u8 0, .int .i16 0, .int .u8 0, .int .i16 0, .int .u8 0, .int .i16 0, .int .u8 0, .int .i16 0, .int .u8 0, .int .i16 0, .int .u8 0, .int .i16 0, .int .u8 0, .int .i16 0] 36)).setRow w4.heap.size (ccells Y).toArray)) := Below.setRow (H4.out.alloc H4.out.size _) _ _ H4.out.size
  go_wp2_with (first
    | (refine wpList_store_row rfl 36 (.tmp 5) (.tmp 17) rfl w4.heap.size _ rfl rfl 36 _ F0.out (size_of_crate Tryd.sizeCr _ HY2.out.1) (by rw [ccells_size _ HY2.out.1]; rfl) (ccells_one _) ?_)
    | (refine wpList_load_row rfl 36 (.tmp 5) rfl w4.heap.size rfl 36 _ (0, 0) _ F1.out Tryd.underlying36 rfl (size_of_crate Tryd.sizeCr _ HY2.out.1) ?_)
    | (refine wpList_load_row rfl 36 (.tmp 3) rfl w2.heap.size rfl 36 _ (0, 0) _ F2.out Tryd.underlying36 rfl (size_of_crate Tryd.sizeCr _ HY2.out.1) ?_))
  refine (eqCrate_same Y HY2.out _).mono ?_
  rintro e w5 ⟨rfl, hb5⟩
  have H5 : Hid (Below w.heap.size w w5) := F3.out.trans (hb5.mono F3.out.size)
  clear hb5
  go_wp2
  go_ret
  exact ⟨rfl, H5.out⟩

set_option maxRecDepth 100000 in
set_option maxHeartbeats 1000000 in
theorem srtLaw_good (bs : List Bot) (hwf : WfC bs) (ad : Nat → Addr) (w : World) (hE : EW 7 w ad) (hok : okC bs = true) : Calls Tryd.prog 4 #[.agg (ccells bs).toArray] w (Good w) := by
  have HW := Lib.hid hwf
  have HE := Lib.hid hE
  have Hok := Lib.hid hok
  have HY : Hid (WfC (srtB bs)) := wf_Y bs hwf
  clear hwf hE hok
  obtain ⟨Y, hY⟩ : ∃ Y, (srtB bs) = Y := ⟨_, rfl⟩
  have HYe := Lib.hid hY
  have HY2 : Hid (WfC Y) := by show WfC Y; rw [← hY]; exact HY.out
  clear hY HY
  have HA := Lib.hid (CBlk.new w 33 bs)
  have HB0 : Hid (Below w.heap.size w (w.alloc (.cells (ccells bs).toArray 33))) := (Below.refl _ w).alloc (Nat.le_refl _) _
  go_enter Tryd.func4, Tryd.ntmps4
  go_wp2_with (refine wpList_load_row rfl 33 (.tmp 1) rfl w.heap.size rfl 33 _ (0, 0) _ HA.out Tryd.underlying33 rfl (size_of_crate Tryd.sizeLc _ HW.out.1) ?_)
  refine (toCrate_any bs HW.out.1 _).mono ?_
  rintro e w1 ⟨rfl, hb1⟩
  have H1 : Hid (Below w.heap.size w w1) := HB0.out.trans (hb1.mono HB0.out.size)
  have HA1 : Hid (CBlk w1 w.heap.size 33 bs) := HA.out.below hb1 HA.out.lt
  clear hb1 HA HB0
  go_wp2_with fail
  refine (specSortC_any bs HW.out _).mono ?_
  rintro e w2 ⟨rfl, hb2⟩
  have H2 : Hid (Below w.heap.size w w2) := H1.out.trans (hb2.mono H1.out.size)
  have HA2 : Hid (CBlk w2 w.heap.size 33 bs) := HA1.out.below hb2 HA1.out.lt
  clear hb2 H1 HA1
  rw [Hok.out]
  have hV : srtV bs true = .tuple #[.agg (ccells Y).toArray, .int .i64 0] := by rw [← HYe.out]; rfl
  rw [hV]
  clear hV
  have C0 : Hid (CBlk (w2.alloc (.cells #[.int .u8 0, .int .i16 0, .int .u8 0, .int .i16 0, .int .u8 0, .int .i16 0, .int .u8 0, .int .i16 0, .int .u8 0, .int .i16 0, .int .u8 0, .int .i16 0, .int .u8 0, .int .i16 0, .int .u8 0, .int .i16 0, .int .u8 0, .int .i16 0, .int .u8 0, .int .i16 0, .int .u8 0, .int .i16 0, .int .u8 0, .int .i16 0] 36)) w2.heap.size 36 noB) := CBlk.new' rfl rfl
  have C1 : Hid (CBlk ((w2.alloc (.cells #[.int .u8 0, .int .i16 0, .int .u8 0, .int .i16 0, .int .u8 0, .int .i16 0, .int .u8 0, .int .i16 0, .int .u8 0, .int .i16 0, .int .u8 0, .int .i16 0, .int .u8 0, .int .i16 0, .int .u8 0, .int .i16 0, .int .u8 0, .int .i16 0, .int .u8 0, .int .i16 0, .int .u8 0, .int .i16 0, .int .u8 0, .int .i16 0] 36)).setRow w2.heap.size (ccells Y).toArray) w2.heap.size 36 Y) := C0.out.setRow
  have C2 : Hid (CBlk ((w2.alloc (.cells #[.int .u8 0, .int .i16 0, .int .u8 0, .int .i16 0, .int .u8 0, .int .i16 0, .int .u8 0, .int .i16 0, .int .u8 0, .int .i16 0, .int .u8 0, .int .i16 0, .int .u8 0, .int .i16 0, .int .u8 0, .int .i16 0, .int .u8 0, .int .i16 0, .int .u8 0, .int .i16 0, .int .u8 0, .int .i16 0, .int .u8 0, .int .i16 0] 36)).setRow w2.heap.size (ccells Y).toArray) w.heap.size 33 bs) := by
    refine Eq.trans (setRow_other _ _ _ _ ?_) (CBlk.alloc HA2.out _)
    have := HA2.out.lt; omega
  have C3 : Hid (Below w.heap.size w ((w2.alloc (.cells #[.int .u8 0, .int .i16 0, .int .u8 0, .int .i16 0, .int .u8 0, .int .i16 0, .int .u8 0, .int .i16 0, .int .u8 0, .int .i16 0, .int .u8 0, .int .i16 0, .int .u8 0, .int .i16 0, .int .u8 0, .int .i16 0, .int .u8 0, .int .i16 0, .int .u8 0, .int .i16 0, .int .u8 0, .int .i16 0, .int .u8 0, .int .i16 0] 36)).setRow w2.heap.size (ccells Y).toArray)) := Below.setRow (H2.out.alloc H2.out.size _) _ _ H2.out.size
  have C4 : Hid (w2.heap.size < ((w2.alloc (.cells #[.int .u8 0, .int .i16 0, .int .u8 0, .int .i16 0, .int .u8 0, .int .i16 0, .int .u8 0, .int .i16 0, .int .u8 0, .int .i16 0, .int .u8 0, .int .i16 0, .int .u8 0, .int .i16 0, .int .u8 0, .int .i16 0, .int .u8 0, .int .i16 0, .int .u8 0, .int .i16 0, .int .u8 0, .int .i16 0, .int .u8 0, .int .i16 0] 36)).setRow w2.heap.size (ccells Y).toArray).heap.size) := C1.out.lt
  go_wp2_with (first
    | (refine wpList_store_row rfl 36 (.tmp 3) (.tmp 11) rfl w2.heap.size _ rfl rfl 36 _ C0.out (size_of_crate Tryd.sizeCr _ HY2.out.1) (by rw [ccells_size _ HY2.out.1]; rfl) (ccells_one _) ?_)
    | (refine wpList_load_row rfl 33 (.tmp 1) rfl w.heap.size rfl 33 _ (0, 0) _ C2.out Tryd.underlying33 rfl (size_of_crate Tryd.sizeLc _ HW.out.1) ?_))
  refine (toCrate_any bs HW.out.1 _).mono ?_
  rintro e w3 ⟨rfl, hb3⟩
  have H3 : Hid (Below w.heap.size w w3) := C3.out.trans (hb3.mono C3.out.size)
  have D1 : Hid (CBlk w3 w2.heap.size 36 Y) := C1.out.below hb3 C4.out
  clear hb3
  go_wp2_with fail
  refine (implSortC_any bs HW.out ad _ (HE.out.below H3.out (Nat.le_refl _))).mono ?_
  rintro e w4 ⟨rfl, hb4⟩
  have H4 : Hid (Below w.heap.size w w4) := H3.out.trans (hb4.mono H3.out.size)
  have E1 : Hid (CBlk w4 w2.heap.size 36 Y) := D1.out.below hb4 D1.out.lt
  clear hb4 C0 C1 C2 C3 C4 D1 H3
  rw [Hok.out]
  have hV : srtV bs true = .tuple #[.agg (ccells Y).toArray, .int .i64 0] := by rw [← HYe.out]; rfl
  rw [hV]
  clear hV
  have F0 : Hid (CBlk (w4.alloc (.cells #[.int .u8 0, .int .i16 0, .int .u8 0, .int .i16 0, .int .u8 0, .int .i16 0, .int .u8 0, .int .i16 0, .int .u8 0, .int .i16 0, .int .u8 0, .int .i16 0, .int .u8 0, .int .i16 0, .int .u8 0, .int .i16 0, .int .u8 0, .int .i16 0, .int .u8 0, .int .i16 0, .int .u8 0, .int .i16 0, .int .u8 0, .int .i16 0] 36)) w4.heap.size 36 noB) := CBlk.new' rfl rfl
  have F1 : Hid (CBlk ((w4.alloc (.cells #[.int .u8 0, .int .i16 0, .int .u8 0, .int .i16 0, .int .u8 0, .int .i16 0, .int .u8 0, .int .i16 0, .int .u8 0, .int .i16 0, .int .u8 0, .int .i16 0, .int .u8 0, .int .i16 0, .int .u8 0, .int .i16 0, .int .u8 0, .int .i16 0, .int .u8 0, .int .i16 0, .int .u8 0, .int .i16 0, .int .u8 0, .int .i16 0] 36)).setRow w4.heap.size (ccells Y).toArray) w4.heap.size 36 Y) := F0.out.setRow
  have F2 : Hid (CBlk ((w4.alloc (.cells #[.int .u8 0, .int .i16 0, .int .u8 0, .int .i16 0, .int .u8 0, .int .i16 0, .int .u8 0, .int .i16 0, .int .u8 0, .int .i16 0, .int .u8 0, .int .i16 0, .int .u8 0, .int .i16 0, .int .u8 0, .int .i16 0, .int .u8 0, .int .i16 0, .int .u8 0, .int .i16 0, .int .u8 0, .int .i16 0, .int .u8 0, .int .i16 0] 36)).setRow w4.heap.size (ccells Y).toArray) w2.heap.size 36 Y) := by
    refine Eq.trans (setRow_other _ _ _ _ ?_) (CBlk.alloc E1.out _)
    have := E1.out.lt; omega
  have F3 : Hid (Below w.heap.size w ((w4.alloc (.cells #[.int .u8 0, .int .i16 0, .int .u8 0, .int .i16 0, .int .u8 0, .int .i16 0, .int .u8 0, .int .i16 0, .int .u8 0, .int .i16 0, .int .u8 0, .int .i16 0, .int .u8 0, .int .i16 0, .int .u8 0, .int .i16 0, .int .u8 0, .int .i16 0, .int .u8 0, .int .i16 0, .int .u8 0, .int .i16 0, .int .u8 0, .int .i16 0] 36)).setRow w4.heap.size (ccells Y).toArray)) := Below.setRow (H4.out.alloc H4.out.size _) _ _ H4.out.size
  go_wp2_with (first
    | (refine wpList_store_row rfl 36 (.tmp 5) (.tmp 17) rfl w4.heap.size _ rfl rfl 36 _ F0.out (size_of_crate Tryd.sizeCr _ HY2.out.1) (by rw [ccells_size _ HY2.out.1]; rfl) (ccells_one _) ?_)
    | (refine wpList_load_row rfl 36 (.tmp 5) rfl w4.heap.size rfl 36 _ (0, 0) _ F1.out Tryd.underlying36 rfl (size_of_crate Tryd.sizeCr _ HY2.out.1) ?_)
    | (refine wpList_load_row rfl 36 (.tmp 3) rfl w2.heap.size rfl 36 _ (0, 0) _ F2.out Tryd.underlying36 rfl (size_of_crate Tryd.sizeCr _ HY2.out.1) ?_))
  refine (eqCrate_same Y HY2.out _).mono ?_
  rintro e w5 ⟨rfl, hb5⟩
  have H5 : Hid (Below w.heap.size w w5) := F3.out.trans (hb5.mono F3.out.size)
  clear hb5
  go_wp2
  go_ret
  exact ⟨rfl, H5.out⟩

theorem srtLaw_any (bs : List Bot) (hwf : WfC bs) (ad : Nat → Addr) (w : World) (hE : EW 7 w ad) : Calls Tryd.prog 4 #[.agg (ccells bs).toArray] w (Good w) := by
  cases h : okC bs
  · exact srtLaw_bad bs hwf ad w hE h
  · exact srtLaw_good bs hwf ad w hE h

set_option maxRecDepth 100000 in
theorem fnExactSortCrate_lifted (os : Os) (started : os.Started) (H : Type) (enc : TypeId × Value → H) :
    ReturnsInHanded {} Tryd.checked os 4 .any (fun w args => (Rows.fnExactSortCrateSpec.pre enc Tryd.prog Tryd.f4 Rows.fnExactSortCrateRow.domain false w args ∧ laidMetH Tryd.prog (lay sl7) w) ∧ sizedMet enc Tryd.prog Tryd.f4 (OpenSpec.ofChange Rows.fnExactSortCrateSpec) false w args)
      (Rows.fnExactSortCrateSpec.post enc Tryd.prog Tryd.f4 false true false false) := by
  refine law_liftL (C := Tryd.checked) 1 7 Tryd.own started (by kernel_rfl) Tryd.func4
    (ChangeSpec.witness_shaped (enc := enc) (C := Tryd.checked) (os := os) (X := fun w _ => laidMetH Tryd.prog (lay sl7) w) false (World.doorLaid Tryd.prog 157 os) #[.agg #[.int .u8 0, .int .i16 0, .int .u8 0, .int .i16 0, .int .u8 0, .int .i16 0, .int .u8 0, .int .i16 0, .int .u8 0, .int .i16 0, .int .u8 0, .int .i16 0, .int .u8 0, .int .i16 0, .int .u8 0, .int .i16 0, .int .u8 0, .int .i16 0, .int .u8 0, .int .i16 0, .int .u8 0, .int .i16 0, .int .u8 0, .int .i16 0]] 8 rfl (World.shaped_of_RefB (by kernel_rfl) (by kernel_rfl)) (by kernel_rfl) (by kernel_rfl) (by kernel_rfl)
      (laidMetH_of_parts3 (fuel := 8) (laidMet_of_run' 8 (by kernel_rfl) (by kernel_rfl)) (by kernel_rfl) (by kernel_rfl)))
    Tryd.laidOut (by kernel_rfl) rfl (by kernel_rfl) Tryd.underlying4 (by kernel_rfl) (by kernel_rfl)
    (fun ds gs h h' => by match ds, gs, h, h' with | [d1], [g1, g2, g3, g4, g5, g6, g7], _, _ => rfl) ?_
  intro W base args ds p hL hval hA
  rw [Tryd.params4] at hA hval
  obtain ⟨v0, d0, rfl, rfl, h0⟩ := trodAll_one hA
  obtain ⟨bs, hl, rfl, hwf⟩ := open_crate (n := 12) Tryd.underlying33 (by kernel_rfl) Tryd.underlying32 Tryd.underlying5 Tryd.underlying22 (by kernel_rfl) (by kernel_rfl) (hval 0 33 v0 rfl rfl) h0
  obtain ⟨ad, hE⟩ := ew7_of hL
  exact srtLaw_any bs ⟨hl, hwf⟩ ad W hE

theorem fnExactSortCrate_row : Rows.FnExactSortCrateSaid :=
  OpenClaim.holds_of_wide 4 Tryd.f4 rfl rfl rfl rfl rfl rfl rfl ⟨rfl, rfl, rfl, rfl, rfl⟩ rfl rfl rfl rfl rfl (by kernel_rfl) Tryd.func4 (by kernel_rfl)
    (of_decide_eq_true (by kernel_rfl)) (by unfold Func.isWrapper; rw [if_neg (of_decide_eq_false (by kernel_rfl))]; exact ⟨rfl, rfl⟩)
    (fun os started H enc _ => fnExactSortCrate_lifted os started H enc)

theorem fnExactSortCrate_card : Rows.FnExactSortCrateCardSaid :=
  Claim7.holds_tied_plain_at .later [] [.sentinel, .sentinel, .sentinel, .sentinel, .sentinel, .sentinel, .sentinel] true (true, "adbdf034d64292e6a81b9c7a8d6d0166d286245f78fa64e83bb3c2fce5971272") true
    fnExactSortCrate_row (fun _ h => by cases h) (by kernel_rfl) (fun _ h => by cases h) fnExactSortCrate_row_tie rfl ⟨rfl, rfl⟩ (by kernel_rfl) rfl
    (fun f fn hf hfn => by
      obtain rfl : f = 4 := Option.some.inj ((show Tryd.prog.funcNamed "loop.example/g01353/laws.FnExactSortCrate" = some 4 by kernel_rfl).symm.trans hf) |>.symm
      obtain rfl : fn = Tryd.f4 := (Option.some.inj (Tryd.func4.symm.trans hfn)).symm
      exact ⟨by kernel_rfl, fun j t ht => by
        have hm : t ∈ Tryd.f4.params.toList := Array.mem_toList_iff.2 (Array.mem_of_getElem? ht)
        have hall : (Tryd.f4.params.toList.all fun u => !Tryd.prog.wantsStandIn u) = true := by kernel_rfl
        exact (show Tryd.prog.wantsStandIn t = false by simpa using List.all_eq_true.1 hall t hm)⟩)
    (by kernel_rfl)
#print axioms fnExactSortCrate_card
end Go.Proofs.YtlfamfdgphhbcaaDoor
