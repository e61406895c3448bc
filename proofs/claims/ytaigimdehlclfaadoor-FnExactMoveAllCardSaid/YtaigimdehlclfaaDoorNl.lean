/-
  FnExactMoveAll: for every crate and every list of swaps the law returns true, and its arguments read as before. No condition but that the sentinel errors hold what the program's text lays (tied).
-/
import Derived.Test.YtaigimdehlclfaaDoorCards
import Derived.Test.YtaigimdehlclfaaDoorTie
import Derived.Test.YtaigimdehlclfaaDoorG
import Derived.Test.YtaigimdehlclfaaDoorR
import Derived.Test.YtaigimdehlclfaaDoorNm
import Derived.SevenTiedAt
namespace Go.Proofs.YtaigimdehlclfaaDoor
open Go.ChangeShapes Go.WideShapes Go.ChangeAt Go.RowKit Go.Deep

set_option maxRecDepth 100000 in
set_option maxHeartbeats 4000000 in
theorem maLaw_any (bs : List Bot) (hwf : WfC bs) (xs : List Swp) (hxs : ∀ x ∈ xs, wfS x) (A : Option Addr) (c : Nat) (ad : Nat → Addr) (w : World) (hl : xs.length ≤ 9223372036854775807) (hr : Rd w w.heap.size scells A xs) (hE : EW 7 w ad) :
    Calls Tryd.prog 3 #[.agg (ccells bs).toArray, .slice A xs.length c] w (Good w) := by
  have HW := Lib.hid hwf
  have HX := Lib.hid hxs
  have HR := Lib.hid hr
  have HE := Lib.hid hE
  clear hwf hr hxs hE
  have HL0 := Lib.hid (CBlk.new w 25 bs)
  have HB0 : Hid (Below w.heap.size w (w.alloc (.cells (ccells bs).toArray 25))) := (Below.refl _ w).alloc (Nat.le_refl _) _
  go_enter Tryd.func3, Tryd.ntmps3
  go_wp2_with fail
  refine (szSwapS_any A xs.length c 1048576 hl ⟨by omega, by omega⟩ _).mono ?_
  rintro e w' ⟨rfl, rfl⟩
  by_cases hn : (1048576 : Int) < xs.length
  · rw [if_pos hn]
    go_wp2
    go_ret
    exact ⟨rfl, HB0.out⟩
  rw [if_neg hn]
  have hn0 : (0 : Int) ≤ 1048576 - xs.length := by omega
  have hl2 : xs.length ≤ 1048576 := by omega
  go_wp2_with (refine wpList_load_row rfl 25 (.tmp 2) rfl w.heap.size rfl 25 _ (0, 0) _ HL0.out Tryd.underlying25 rfl (size_of_crate Tryd.sizeLc _ HW.out.1) ?_)
  refine (toCrate_any bs HW.out.1 _).mono ?_
  rintro e w1 ⟨rfl, hb⟩
  have HB1 : Hid (Below w.heap.size w w1) := HB0.out.trans (hb.mono HB0.out.size)
  have HL1 : Hid (CBlk w1 w.heap.size 25 bs) := HL0.out.below hb HL0.out.lt
  clear hb
  clear HB0
  clear HL0
  go_wp2_with fail
  refine (toSwapS_any xs A c _ hl2 (HR.out.keep HB1.out)).mono ?_
  rintro e w2 ⟨rfl, hR, hb⟩
  have HB2 : Hid (Below w.heap.size w w2) := HB1.out.trans (hb.mono HB1.out.size)
  have HL2 : Hid (CBlk w2 w.heap.size 25 bs) := HL1.out.below hb HL1.out.lt
  clear hb
  clear HB1
  clear HL1
  have HS2 := Lib.hid hR
  clear hR
  go_wp2_with fail
  refine (specMoveAll_any bs HW.out xs HX.out _ _ _ hl2 (HS2.out.rd HS2.out.lt)).mono ?_
  rintro e w3 ⟨rfl, hb⟩
  have HB3 : Hid (Below w.heap.size w w3) := HB2.out.trans (hb.mono HB2.out.size)
  have HL3 : Hid (CBlk w3 w.heap.size 25 bs) := HL2.out.below hb HL2.out.lt
  clear hb
  clear HB2
  clear HL2
  clear HS2
  have hXl := maL_wf HW.out xs
  obtain ⟨X, hX⟩ : ∃ X, maL bs xs = X := ⟨_, rfl⟩
  obtain ⟨cd, hcd⟩ : ∃ cd, maC bs xs = cd := ⟨_, rfl⟩
  rw [hX] at hXl
  rw [hX, hcd]
  have HX2 := Lib.hid hX
  have HCd := Lib.hid hcd
  have HXl := Lib.hid hXl
  clear hX hcd hXl
  unfold ccV
  have LT0 : Hid (w.heap.size < w3.heap.size) := HL3.out.lt
  have qHB : Below w.heap.size w (w3.alloc (.cells #[.int .u8 0, .int .i16 0, .int .u8 0, .int .i16 0, .int .u8 0, .int .i16 0, .int .u8 0, .int .i16 0, .int .u8 0, .int .i16 0, .int .u8 0, .int .i16 0, .int .u8 0, .int .i16 0, .int .u8 0, .int .i16 0, .int .u8 0, .int .i16 0, .int .u8 0, .int .i16 0, .int .u8 0, .int .i16 0, .int .u8 0, .int .i16 0] 30)) := HB3.out.alloc HB3.out.size _
  have qHL : CBlk (w3.alloc (.cells #[.int .u8 0, .int .i16 0, .int .u8 0, .int .i16 0, .int .u8 0, .int .i16 0, .int .u8 0, .int .i16 0, .int .u8 0, .int .i16 0, .int .u8 0, .int .i16 0, .int .u8 0, .int .i16 0, .int .u8 0, .int .i16 0, .int .u8 0, .int .i16 0, .int .u8 0, .int .i16 0, .int .u8 0, .int .i16 0, .int .u8 0, .int .i16 0] 30)) w.heap.size 25 bs := HL3.out.alloc _
  have qHP : CBlk (w3.alloc (.cells #[.int .u8 0, .int .i16 0, .int .u8 0, .int .i16 0, .int .u8 0, .int .i16 0, .int .u8 0, .int .i16 0, .int .u8 0, .int .i16 0, .int .u8 0, .int .i16 0, .int .u8 0, .int .i16 0, .int .u8 0, .int .i16 0, .int .u8 0, .int .i16 0, .int .u8 0, .int .i16 0, .int .u8 0, .int .i16 0, .int .u8 0, .int .i16 0] 30)) w3.heap.size 30 noB := CBlk.new' rfl rfl
  obtain ⟨W4, hW4⟩ : ∃ W4, w3.alloc (.cells #[.int .u8 0, .int .i16 0, .int .u8 0, .int .i16 0, .int .u8 0, .int .i16 0, .int .u8 0, .int .i16 0, .int .u8 0, .int .i16 0, .int .u8 0, .int .i16 0, .int .u8 0, .int .i16 0, .int .u8 0, .int .i16 0, .int .u8 0, .int .i16 0, .int .u8 0, .int .i16 0, .int .u8 0, .int .i16 0, .int .u8 0, .int .i16 0] 30) = W4 := ⟨_, rfl⟩
  rw [hW4] at qHB qHL qHP
  have HB4 := Lib.hid qHB
  have HL4 := Lib.hid qHL
  have HP4 := Lib.hid qHP
  clear qHB qHL qHP HB3 HL3
  go_wp2_with (refine wpList_store_row rfl 30 (.tmp 6) (.tmp 22) rfl w3.heap.size (ccells X).toArray rfl rfl 30 _ HP4.out (size_of_crate Tryd.sizeCr _ HXl.out.1) (by rw [ccells_size _ HXl.out.1]; rfl) (ccells_one _) ?_)
  clear hW4
  have qHB : Below w.heap.size w (W4.setRow w3.heap.size (ccells X).toArray) := Below.setRow HB4.out _ _ (by have l0 := LT0.out; omega)
  have qHL : CBlk (W4.setRow w3.heap.size (ccells X).toArray) w.heap.size 25 bs := HL4.out.rowOff (by have l0 := LT0.out; omega) _
  have qHP : CBlk (W4.setRow w3.heap.size (ccells X).toArray) w3.heap.size 30 X := HP4.out.setRow (Y := X)
  obtain ⟨w5, hw5⟩ : ∃ w5, W4.setRow w3.heap.size (ccells X).toArray = w5 := ⟨_, rfl⟩
  rw [hw5] at qHB qHL qHP
  have HB5 := Lib.hid qHB
  have HL5 := Lib.hid qHL
  have HP5 := Lib.hid qHP
  clear qHB qHL qHP HB4 HL4 HP4
  rw [hw5]
  clear hw5
  refine (toSwapS_any xs A c _ hl2 (HR.out.keep HB5.out)).mono ?_
  rintro e w6 ⟨rfl, hR, hb⟩
  have HB6 : Hid (Below w.heap.size w w6) := HB5.out.trans (hb.mono HB5.out.size)
  have HL6 : Hid (CBlk w6 w.heap.size 25 bs) := HL5.out.below hb HL5.out.lt
  have HP6 : Hid (CBlk w6 w3.heap.size 30 X) := HP5.out.below hb HP5.out.lt
  clear hb
  clear HB5
  clear HL5
  clear HP5
  have HS6 := Lib.hid hR
  clear hR
  go_wp2_with (refine wpList_load_row rfl 25 (.tmp 2) rfl w.heap.size rfl 25 _ (0, 0) _ HL6.out Tryd.underlying25 rfl (size_of_crate Tryd.sizeLc _ HW.out.1) ?_)
  refine (toCrate_any bs HW.out.1 _).mono ?_
  rintro e w7 ⟨rfl, hb⟩
  have HB7 : Hid (Below w.heap.size w w7) := HB6.out.trans (hb.mono HB6.out.size)
  have HL7 : Hid (CBlk w7 w.heap.size 25 bs) := HL6.out.below hb HL6.out.lt
  have HP7 : Hid (CBlk w7 w3.heap.size 30 X) := HP6.out.below hb HP6.out.lt
  have HS7 : Hid (Rs w7 w5.heap.size 44 scells xs) := Blk.keep HS6.out hb
  clear hb
  clear HB6
  clear HL6
  clear HP6
  clear HS6
  go_wp2_with fail
  refine (implMoveAll_any bs HW.out xs HX.out _ _ ad _ hl2 (HS7.out.rd HS7.out.lt) (HE.out.below HB7.out (Nat.le_refl _))).mono ?_
  rintro e w8 ⟨rfl, hb⟩
  have HB8 : Hid (Below w.heap.size w w8) := HB7.out.trans (hb.mono HB7.out.size)
  have HL8 : Hid (CBlk w8 w.heap.size 25 bs) := HL7.out.below hb HL7.out.lt
  have HP8 : Hid (CBlk w8 w3.heap.size 30 X) := HP7.out.below hb HP7.out.lt
  have HS8 : Hid (Rs w8 w5.heap.size 44 scells xs) := Blk.keep HS7.out hb
  clear hb
  clear HB7
  clear HL7
  clear HP7
  clear HS7
  rw [HX2.out, HCd.out]
  unfold ccV
  have LT1 : Hid (w.heap.size < w8.heap.size) := HL8.out.lt
  have LT2 : Hid (w3.heap.size < w8.heap.size) := HP8.out.lt
  have LT3 : Hid (w5.heap.size < w8.heap.size) := HS8.out.lt
  have qHB : Below w.heap.size w (w8.alloc (.cells #[.int .u8 0, .int .i16 0, .int .u8 0, .int .i16 0, .int .u8 0, .int .i16 0, .int .u8 0, .int .i16 0, .int .u8 0, .int .i16 0, .int .u8 0, .int .i16 0, .int .u8 0, .int .i16 0, .int .u8 0, .int .i16 0, .int .u8 0, .int .i16 0, .int .u8 0, .int .i16 0, .int .u8 0, .int .i16 0, .int .u8 0, .int .i16 0] 30)) := HB8.out.alloc HB8.out.size _
  have qHL : CBlk (w8.alloc (.cells #[.int .u8 0, .int .i16 0, .int .u8 0, .int .i16 0, .int .u8 0, .int .i16 0, .int .u8 0, .int .i16 0, .int .u8 0, .int .i16 0, .int .u8 0, .int .i16 0, .int .u8 0, .int .i16 0, .int .u8 0, .int .i16 0, .int .u8 0, .int .i16 0, .int .u8 0, .int .i16 0, .int .u8 0, .int .i16 0, .int .u8 0, .int .i16 0] 30)) w.heap.size 25 bs := HL8.out.alloc _
  have qHP : CBlk (w8.alloc (.cells #[.int .u8 0, .int .i16 0, .int .u8 0, .int .i16 0, .int .u8 0, .int .i16 0, .int .u8 0, .int .i16 0, .int .u8 0, .int .i16 0, .int .u8 0, .int .i16 0, .int .u8 0, .int .i16 0, .int .u8 0, .int .i16 0, .int .u8 0, .int .i16 0, .int .u8 0, .int .i16 0, .int .u8 0, .int .i16 0, .int .u8 0, .int .i16 0] 30)) w3.heap.size 30 X := HP8.out.alloc _
  have qHS : Rs (w8.alloc (.cells #[.int .u8 0, .int .i16 0, .int .u8 0, .int .i16 0, .int .u8 0, .int .i16 0, .int .u8 0, .int .i16 0, .int .u8 0, .int .i16 0, .int .u8 0, .int .i16 0, .int .u8 0, .int .i16 0, .int .u8 0, .int .i16 0, .int .u8 0, .int .i16 0, .int .u8 0, .int .i16 0, .int .u8 0, .int .i16 0, .int .u8 0, .int .i16 0] 30)) w5.heap.size 44 scells xs := Blk.alloc HS8.out _
  have qHQ : CBlk (w8.alloc (.cells #[.int .u8 0, .int .i16 0, .int .u8 0, .int .i16 0, .int .u8 0, .int .i16 0, .int .u8 0, .int .i16 0, .int .u8 0, .int .i16 0, .int .u8 0, .int .i16 0, .int .u8 0, .int .i16 0, .int .u8 0, .int .i16 0, .int .u8 0, .int .i16 0, .int .u8 0, .int .i16 0, .int .u8 0, .int .i16 0, .int .u8 0, .int .i16 0] 30)) w8.heap.size 30 noB := CBlk.new' rfl rfl
  obtain ⟨W9, hW9⟩ : ∃ W9, w8.alloc (.cells #[.int .u8 0, .int .i16 0, .int .u8 0, .int .i16 0, .int .u8 0, .int .i16 0, .int .u8 0, .int .i16 0, .int .u8 0, .int .i16 0, .int .u8 0, .int .i16 0, .int .u8 0, .int .i16 0, .int .u8 0, .int .i16 0, .int .u8 0, .int .i16 0, .int .u8 0, .int .i16 0, .int .u8 0, .int .i16 0, .int .u8 0, .int .i16 0] 30) = W9 := ⟨_, rfl⟩
  rw [hW9] at qHB qHL qHP qHS qHQ
  have HB9 := Lib.hid qHB
  have HL9 := Lib.hid qHL
  have HP9 := Lib.hid qHP
  have HS9 := Lib.hid qHS
  have HQ9 := Lib.hid qHQ
  clear qHB qHL qHP qHS qHQ HB8 HL8 HP8 HS8
  have ZHQ : Hid (CBlk (W9.setRow w8.heap.size (ccells X).toArray) w8.heap.size 30 X) := HQ9.out.setRow (Y := X)
  have ZHP : Hid (CBlk (W9.setRow w8.heap.size (ccells X).toArray) w3.heap.size 30 X) := HP9.out.rowOff (by have l0 := LT0.out; have l1 := LT1.out; have l2 := LT2.out; have l3 := LT3.out; omega) _
  go_wp2_with (first
    | (refine wpList_store_row rfl 30 (.tmp 9) (.tmp 31) rfl w8.heap.size (ccells X).toArray rfl rfl 30 _ HQ9.out (size_of_crate Tryd.sizeCr _ HXl.out.1) (by rw [ccells_size _ HXl.out.1]; rfl) (ccells_one _) ?_)
    | (refine wpList_load_row rfl 30 (.tmp 9) rfl w8.heap.size rfl 30 _ (0, 0) _ ZHQ.out Tryd.underlying30 rfl (size_of_crate Tryd.sizeCr _ HXl.out.1) ?_)
    | (refine wpList_load_row rfl 30 (.tmp 6) rfl w3.heap.size rfl 30 _ (0, 0) _ ZHP.out Tryd.underlying30 rfl (size_of_crate Tryd.sizeCr _ HXl.out.1) ?_))
  clear hW9 ZHQ ZHP
  have qHB : Below w.heap.size w (W9.setRow w8.heap.size (ccells X).toArray) := Below.setRow HB9.out _ _ (by have l0 := LT0.out; have l1 := LT1.out; have l2 := LT2.out; have l3 := LT3.out; omega)
  have qHL : CBlk (W9.setRow w8.heap.size (ccells X).toArray) w.heap.size 25 bs := HL9.out.rowOff (by have l0 := LT0.out; have l1 := LT1.out; have l2 := LT2.out; have l3 := LT3.out; omega) _
  have qHP : CBlk (W9.setRow w8.heap.size (ccells X).toArray) w3.heap.size 30 X := HP9.out.rowOff (by have l0 := LT0.out; have l1 := LT1.out; have l2 := LT2.out; have l3 := LT3.out; omega) _
  have qHS : Rs (W9.setRow w8.heap.size (ccells X).toArray) w5.heap.size 44 scells xs := (setRow_other _ _ _ _ (by have l0 := LT0.out; have l1 := LT1.out; have l2 := LT2.out; have l3 := LT3.out; omega)).trans HS9.out
  have qHQ : CBlk (W9.setRow w8.heap.size (ccells X).toArray) w8.heap.size 30 X := HQ9.out.setRow (Y := X)
  obtain ⟨w10, hw10⟩ : ∃ w10, W9.setRow w8.heap.size (ccells X).toArray = w10 := ⟨_, rfl⟩
  rw [hw10] at qHB qHL qHP qHS qHQ
  have HB10 := Lib.hid qHB
  have HL10 := Lib.hid qHL
  have HP10 := Lib.hid qHP
  have HS10 := Lib.hid qHS
  have HQ10 := Lib.hid qHQ
  clear qHB qHL qHP qHS qHQ HB9 HL9 HP9 HS9 HQ9
  rw [hw10]
  clear hw10
  refine (eqCrate_same X HXl.out _).mono ?_
  rintro e w11 ⟨rfl, hb⟩
  have HB11 : Hid (Below w.heap.size w w11) := HB10.out.trans (hb.mono HB10.out.size)
  have HL11 : Hid (CBlk w11 w.heap.size 25 bs) := HL10.out.below hb HL10.out.lt
  have HS11 : Hid (Rs w11 w5.heap.size 44 scells xs) := Blk.keep HS10.out hb
  clear hb
  clear HB10
  clear HL10
  clear HS10
  clear HP10
  clear HQ10
  go_wp2_with fail
  refine (toSwapS_any xs A c _ hl2 (HR.out.keep HB11.out)).mono ?_
  rintro e w12 ⟨rfl, hR, hb⟩
  have HB12 : Hid (Below w.heap.size w w12) := HB11.out.trans (hb.mono HB11.out.size)
  have HL12 : Hid (CBlk w12 w.heap.size 25 bs) := HL11.out.below hb HL11.out.lt
  have HS12 : Hid (Rs w12 w5.heap.size 44 scells xs) := Blk.keep HS11.out hb
  clear hb
  clear HB11
  clear HL11
  clear HS11
  have HT12 := Lib.hid hR
  clear hR
  go_wp2_with fail
  refine (eqSwapS_same xs _ _ _ _ _ (by omega) (HS12.out.rd HS12.out.lt) (HT12.out.rd HT12.out.lt)).mono ?_
  rintro e w13 ⟨rfl, hb⟩
  have HB13 : Hid (Below w.heap.size w w13) := HB12.out.trans (hb.mono HB12.out.size)
  have HL13 : Hid (CBlk w13 w.heap.size 25 bs) := HL12.out.below hb HL12.out.lt
  have HS13 : Hid (Rs w13 w5.heap.size 44 scells xs) := Blk.keep HS12.out hb
  have HT13 : Hid (Rs w13 w11.heap.size 44 scells xs) := Blk.keep HT12.out hb
  clear hb
  clear HB12
  clear HL12
  clear HS12
  clear HT12
  go_wp2
  go_ret
  exact ⟨rfl, HB13.out⟩

set_option maxRecDepth 100000 in
theorem fnExactMoveAll_lifted (os : Os) (started : os.Started) (H : Type) (enc : TypeId × Value → H) :
    ReturnsInHanded {} Tryd.checked os 3 .any (fun w args => (Rows.fnExactMoveAllSpec.pre enc Tryd.prog Tryd.f3 Rows.fnExactMoveAllRow.domain false w args ∧ laidMetH Tryd.prog (lay sl7) w) ∧ sizedMet enc Tryd.prog Tryd.f3 (OpenSpec.ofChange Rows.fnExactMoveAllSpec) false w args)
      (Rows.fnExactMoveAllSpec.post enc Tryd.prog Tryd.f3 false true false false) := by
  refine law_liftL (C := Tryd.checked) 2 7 Tryd.own started (by kernel_rfl) Tryd.func3
    (ChangeSpec.witness_shaped (enc := enc) (C := Tryd.checked) (os := os) (X := fun w _ => laidMetH Tryd.prog (lay sl7) w) false (World.doorLaid Tryd.prog 142 os) #[.agg #[.int .u8 0, .int .i16 0, .int .u8 0, .int .i16 0, .int .u8 0, .int .i16 0, .int .u8 0, .int .i16 0, .int .u8 0, .int .i16 0, .int .u8 0, .int .i16 0, .int .u8 0, .int .i16 0, .int .u8 0, .int .i16 0, .int .u8 0, .int .i16 0, .int .u8 0, .int .i16 0, .int .u8 0, .int .i16 0, .int .u8 0, .int .i16 0], .slice none 0 0] 8 rfl (World.shaped_of_RefB (by kernel_rfl) (by kernel_rfl)) (by kernel_rfl) (by kernel_rfl) (by kernel_rfl)
      (laidMetH_of_parts3 (fuel := 8) (laidMet_of_run' 8 (by kernel_rfl) (by kernel_rfl)) (by kernel_rfl) (by kernel_rfl)))
    Tryd.laidOut (by kernel_rfl) rfl (by kernel_rfl) Tryd.underlying4 (by kernel_rfl) (by kernel_rfl)
    (fun ds gs h h' => by match ds, gs, h, h' with | [d1, d2], [g1, g2, g3, g4, g5, g6, g7], _, _ => rfl) ?_
  intro W base args ds p hL hval hA
  rw [Tryd.params3] at hA hval
  obtain ⟨v0, v1, d0, d1, p0, p1, rfl, rfl, rfl, h0, h1⟩ := trodAll_two hA
  obtain ⟨bs, hl, rfl, hwf⟩ := open_crate (n := 12) Tryd.underlying25 (by kernel_rfl) Tryd.underlying24 Tryd.underlying5 Tryd.underlying22 (by kernel_rfl) (by kernel_rfl) (hval 0 25 v0 rfl rfl) h0
  obtain ⟨A, n, c, rfl⟩ := okWide_slice Tryd.underlying26 (hval 1 26 v1 rfl rfl)
  obtain ⟨A, c, xs, he, hlc, hcm, hws, hR⟩ := open_rows scells wfS Tryd.underlying26 Tryd.flatSL Tryd.cellsSL (by decide) scells_length scells_of rfl h1
  cases he
  unfold maxLen at hcm
  obtain ⟨ad, hE⟩ := ew7_of hL
  exact maLaw_any bs ⟨hl, hwf⟩ xs hws A c ad W (by omega) hR hE

theorem fnExactMoveAll_row : Rows.FnExactMoveAllSaid :=
  OpenClaim.holds_of_wide 3 Tryd.f3 rfl rfl rfl rfl rfl rfl rfl ⟨rfl, rfl, rfl, rfl, rfl⟩ rfl rfl rfl rfl rfl (by kernel_rfl) Tryd.func3 (by kernel_rfl)
    (of_decide_eq_true (by kernel_rfl)) (by unfold Func.isWrapper; rw [if_neg (of_decide_eq_false (by kernel_rfl))]; exact ⟨rfl, rfl⟩)
    (fun os started H enc _ => fnExactMoveAll_lifted os started H enc)

theorem fnExactMoveAll_card : Rows.FnExactMoveAllCardSaid :=
  Claim7.holds_tied_plain_at .later [] [.sentinel, .sentinel, .sentinel, .sentinel, .sentinel, .sentinel, .sentinel] true (true, "0d3f065bd6c6e6f7f784fd170ea6e597391bbe9655202c4988c8aa90a6a93fd5") true
    fnExactMoveAll_row (fun _ h => by cases h) (by kernel_rfl) (fun _ h => by cases h) fnExactMoveAll_row_tie rfl ⟨rfl, rfl⟩ (by kernel_rfl) rfl
    (fun f fn hf hfn => by
      obtain rfl : f = 3 := Option.some.inj ((show Tryd.prog.funcNamed "loop.example/g01353/laws.FnExactMoveAll" = some 3 by kernel_rfl).symm.trans hf) |>.symm
      obtain rfl : fn = Tryd.f3 := (Option.some.inj (Tryd.func3.symm.trans hfn)).symm
      exact ⟨by kernel_rfl, fun j t ht => by
        have hm : t ∈ Tryd.f3.params.toList := Array.mem_toList_iff.2 (Array.mem_of_getElem? ht)
        have hall : (Tryd.f3.params.toList.all fun u => !Tryd.prog.wantsStandIn u) = true := by kernel_rfl
        exact (show Tryd.prog.wantsStandIn t = false by simpa using List.all_eq_true.1 hall t hm)⟩)
    (by kernel_rfl)
#print axioms fnExactMoveAll_card
end Go.Proofs.YtaigimdehlclfaaDoor
