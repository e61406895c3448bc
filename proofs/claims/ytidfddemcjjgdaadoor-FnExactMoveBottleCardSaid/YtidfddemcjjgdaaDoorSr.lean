/-
  The contracts of the program's swapped, swappedAll, SwapAll, SwapPlaces. Condition: the crate's length, that its numbers and those of the swaps fit their kinds; the sentinel errors lie as the row lists them.
-/
import Derived.Test.YtidfddemcjjgdaaDoorSq
import Derived.Test.YtidfddemcjjgdaaDoorEr
namespace Go.Proofs.YtidfddemcjjgdaaDoor
open Go.ChangeShapes Go.WideShapes Go.ChangeAt Go.RowKit Go.Deep

set_option maxRecDepth 100000 in
set_option maxHeartbeats 4000000 in
theorem swapped_any (bs : List Bot) (hwf : WfC bs) (i j : Nat) (hi : i < 12) (hj : j < 12) (w : World) : Calls Tryd.prog 99 #[.agg (ccells bs).toArray, .agg #[.int .i8 (i : Int), .int .i8 (j : Int)]] w
    fun e w' => e = .returned (.agg (ccells (swB bs ((i : Int), (j : Int)))).toArray) ∧ Below w.heap.size w w' := by
  have HW := Lib.hid hwf
  obtain ⟨ki, yi, hbi, -, -⟩ := hwf.at_ hi
  obtain ⟨kj, yj, hbj, -, -⟩ := hwf.at_ hj
  clear hwf
  rw [swB_nat hbi hbj]
  obtain ⟨Z, hZ⟩ : ∃ Z, (bs.set i (kj, yj)).set j (ki, yi) = Z := ⟨_, rfl⟩
  have hyl : (bs.set i (kj, yj)).length = 12 := by rw [List.length_set]; exact HW.out.1
  have hzl : ((bs.set i (kj, yj)).set j (ki, yi)).length = 12 := by rw [List.length_set]; exact hyl
  rw [hZ] at hzl ⊢
  have HZ := Lib.hid hZ
  have ZL := Lib.hid hzl
  clear hZ hzl
  have h1 : CBlk (((w.alloc (.cells (ccells bs).toArray 31)).alloc (.cells #[.int .i8 (i : Int), .int .i8 (j : Int)] 35)).alloc (.cells #[.int .u8 0, .int .i16 0, .int .u8 0, .int .i16 0, .int .u8 0, .int .i16 0, .int .u8 0, .int .i16 0, .int .u8 0, .int .i16 0, .int .u8 0, .int .i16 0, .int .u8 0, .int .i16 0, .int .u8 0, .int .i16 0, .int .u8 0, .int .i16 0, .int .u8 0, .int .i16 0, .int .u8 0, .int .i16 0, .int .u8 0, .int .i16 0] 31)) w.heap.size 31 bs := ((CBlk.new w _ bs).alloc _).alloc _
  have h2 : Blk (((w.alloc (.cells (ccells bs).toArray 31)).alloc (.cells #[.int .i8 (i : Int), .int .i8 (j : Int)] 35)).alloc (.cells #[.int .u8 0, .int .i16 0, .int .u8 0, .int .i16 0, .int .u8 0, .int .i16 0, .int .u8 0, .int .i16 0, .int .u8 0, .int .i16 0, .int .u8 0, .int .i16 0, .int .u8 0, .int .i16 0, .int .u8 0, .int .i16 0, .int .u8 0, .int .i16 0, .int .u8 0, .int .i16 0, .int .u8 0, .int .i16 0, .int .u8 0, .int .i16 0] 31)) (w.heap.size + 1) 35 #[.int .i8 (i : Int), .int .i8 (j : Int)] := by
    refine Blk.alloc ?_ _
    exact Blk.new' (by simp) rfl
  have h3 : CBlk (((w.alloc (.cells (ccells bs).toArray 31)).alloc (.cells #[.int .i8 (i : Int), .int .i8 (j : Int)] 35)).alloc (.cells #[.int .u8 0, .int .i16 0, .int .u8 0, .int .i16 0, .int .u8 0, .int .i16 0, .int .u8 0, .int .i16 0, .int .u8 0, .int .i16 0, .int .u8 0, .int .i16 0, .int .u8 0, .int .i16 0, .int .u8 0, .int .i16 0, .int .u8 0, .int .i16 0, .int .u8 0, .int .i16 0, .int .u8 0, .int .i16 0, .int .u8 0, .int .i16 0] 31)) (w.heap.size + 1 + 1) 31 noB := CBlk.new' (by simp) rfl
  have hb : Below w.heap.size w (((w.alloc (.cells (ccells bs).toArray 31)).alloc (.cells #[.int .i8 (i : Int), .int .i8 (j : Int)] 35)).alloc (.cells #[.int .u8 0, .int .i16 0, .int .u8 0, .int .i16 0, .int .u8 0, .int .i16 0, .int .u8 0, .int .i16 0, .int .u8 0, .int .i16 0, .int .u8 0, .int .i16 0, .int .u8 0, .int .i16 0, .int .u8 0, .int .i16 0, .int .u8 0, .int .i16 0, .int .u8 0, .int .i16 0, .int .u8 0, .int .i16 0, .int .u8 0, .int .i16 0] 31)) := (by repeat (first | exact Below.refl _ _ | refine Below.drew ?_ | refine Below.alloc ?_ (by simp <;> omega) _ | refine Below.setCell ?_ (by simp <;> omega) _))
  have hI0 : (0 : Int) ≤ i := by omega
  have hI1 : (i : Int) < 12 := by omega
  have hJ0 : (0 : Int) ≤ j := by omega
  have hJ1 : (j : Int) < 12 := by omega
  obtain ⟨W1, hW1⟩ : ∃ W1, (((w.alloc (.cells (ccells bs).toArray 31)).alloc (.cells #[.int .i8 (i : Int), .int .i8 (j : Int)] 35)).alloc (.cells #[.int .u8 0, .int .i16 0, .int .u8 0, .int .i16 0, .int .u8 0, .int .i16 0, .int .u8 0, .int .i16 0, .int .u8 0, .int .i16 0, .int .u8 0, .int .i16 0, .int .u8 0, .int .i16 0, .int .u8 0, .int .i16 0, .int .u8 0, .int .i16 0, .int .u8 0, .int .i16 0, .int .u8 0, .int .i16 0, .int .u8 0, .int .i16 0] 31)) = W1 := ⟨_, rfl⟩
  rw [hW1] at h1 h2 h3 hb
  have a1 := h1.kind' hbi
  have a2 := h1.year' hbi
  have a3 := h1.frozen (i * 2)
  have a4 := h1.frozen (i * 2 + 1)
  have b1 := h1.kind' hbj
  have b2 := h1.year' hbj
  have b3 := h1.frozen (j * 2)
  have b4 := h1.frozen (j * 2 + 1)
  have e3 : W1.cell? ⟨w.heap.size + 1, 0, none⟩ = some (.int .i8 (i : Int)) := h2.cell 0
  have e4 : W1.cell? ⟨w.heap.size + 1, 1, none⟩ = some (.int .i8 (j : Int)) := h2.cell 1
  have n1 : CBlk ((W1.setCell ⟨w.heap.size, i * 2, none⟩ (.int .u8 kj)).setCell ⟨w.heap.size, i * 2 + 1, none⟩ (.int .i16 yj)).drew w.heap.size 31 (bs.set i (kj, yj)) := h1.set i (by rw [HW.out.1]; exact hi) (kj, yj)
  obtain ⟨⟨kq, yq⟩, hq⟩ : ∃ q, (bs.set i (kj, yj))[j]? = some q := ⟨_, List.getElem?_eq_getElem (by rw [hyl]; exact hj)⟩
  have d1 := n1.kind' hq
  have d2 := n1.year' hq
  have d3 := n1.frozen (j * 2)
  have d4 := n1.frozen (j * 2 + 1)
  have d5 : (((W1.setCell ⟨w.heap.size, i * 2, none⟩ (.int .u8 kj)).setCell ⟨w.heap.size, i * 2 + 1, none⟩ (.int .i16 yj)).setCell ⟨w.heap.size, j * 2, none⟩ (.int .u8 ki)).drew.cell? ⟨w.heap.size, j * 2 + 1, none⟩ = some (.int .i16 yq) := (World.cell?_setCell_other _ _ _ _ (by simp)).trans d2
  have d6 : (((W1.setCell ⟨w.heap.size, i * 2, none⟩ (.int .u8 kj)).setCell ⟨w.heap.size, i * 2 + 1, none⟩ (.int .i16 yj)).setCell ⟨w.heap.size, j * 2, none⟩ (.int .u8 ki)).drew.frozen? ⟨w.heap.size, j * 2 + 1, none⟩ = false := (World.frozen?_setCell _ _ _ _).trans d4
  have m1 : CBlk ((((W1.setCell ⟨w.heap.size, i * 2, none⟩ (.int .u8 kj)).setCell ⟨w.heap.size, i * 2 + 1, none⟩ (.int .i16 yj)).setCell ⟨w.heap.size, j * 2, none⟩ (.int .u8 ki)).setCell ⟨w.heap.size, j * 2 + 1, none⟩ (.int .i16 yi)) w.heap.size 31 Z := by
    have := (h1.set i (by rw [HW.out.1]; exact hi) (kj, yj)).set j (by rw [hyl]; exact hj) (ki, yi)
    rw [HZ.out] at this; exact this
  have m3 : CBlk ((((W1.setCell ⟨w.heap.size, i * 2, none⟩ (.int .u8 kj)).setCell ⟨w.heap.size, i * 2 + 1, none⟩ (.int .i16 yj)).setCell ⟨w.heap.size, j * 2, none⟩ (.int .u8 ki)).setCell ⟨w.heap.size, j * 2 + 1, none⟩ (.int .i16 yi)) (w.heap.size + 1 + 1) 31 noB := (((h3.other (by omega) _ _).other (by omega) _ _).other (by omega) _ _).other (by omega) _ _
  have mb : Below w.heap.size w ((((W1.setCell ⟨w.heap.size, i * 2, none⟩ (.int .u8 kj)).setCell ⟨w.heap.size, i * 2 + 1, none⟩ (.int .i16 yj)).setCell ⟨w.heap.size, j * 2, none⟩ (.int .u8 ki)).setCell ⟨w.heap.size, j * 2 + 1, none⟩ (.int .i16 yi)) := (((hb.setCell (p := ⟨w.heap.size, i * 2, none⟩) (Nat.le_refl _) _).setCell (p := ⟨w.heap.size, i * 2 + 1, none⟩) (Nat.le_refl _) _).setCell (p := ⟨w.heap.size, j * 2, none⟩) (Nat.le_refl _) _).setCell (p := ⟨w.heap.size, j * 2 + 1, none⟩) (Nat.le_refl _) _
  have M1 := Lib.hid m1
  have M3 := Lib.hid m3
  have MB := Lib.hid mb
  clear h1 h2 h3 hb hbi hbj n1 hq m1 m3 mb hyl HZ
  go_enter Tryd.func99, Tryd.ntmps99
  go_wp2_with fail
  clear hW1
  go_region
  have r1 : CBlk ((((W1.setCell ⟨w.heap.size, i * 2, none⟩ (.int .u8 kj)).setCell ⟨w.heap.size, i * 2 + 1, none⟩ (.int .i16 yj)).setCell ⟨w.heap.size, j * 2, none⟩ (.int .u8 ki)).setCell ⟨w.heap.size, j * 2 + 1, none⟩ (.int .i16 yi)).drew w.heap.size 31 Z := M1.out
  have r3 : CBlk ((((W1.setCell ⟨w.heap.size, i * 2, none⟩ (.int .u8 kj)).setCell ⟨w.heap.size, i * 2 + 1, none⟩ (.int .i16 yj)).setCell ⟨w.heap.size, j * 2, none⟩ (.int .u8 ki)).setCell ⟨w.heap.size, j * 2 + 1, none⟩ (.int .i16 yi)).drew (w.heap.size + 1 + 1) 31 noB := M3.out
  have rb : Below w.heap.size w ((((W1.setCell ⟨w.heap.size, i * 2, none⟩ (.int .u8 kj)).setCell ⟨w.heap.size, i * 2 + 1, none⟩ (.int .i16 yj)).setCell ⟨w.heap.size, j * 2, none⟩ (.int .u8 ki)).setCell ⟨w.heap.size, j * 2 + 1, none⟩ (.int .i16 yi)).drew := MB.out.drew
  obtain ⟨W5, hW5⟩ : ∃ W5, ((((W1.setCell ⟨w.heap.size, i * 2, none⟩ (.int .u8 kj)).setCell ⟨w.heap.size, i * 2 + 1, none⟩ (.int .i16 yj)).setCell ⟨w.heap.size, j * 2, none⟩ (.int .u8 ki)).setCell ⟨w.heap.size, j * 2 + 1, none⟩ (.int .i16 yi)).drew = W5 := ⟨_, rfl⟩
  rw [hW5] at r1 r3 rb ⊢
  have R1 := Lib.hid r1
  have R3 := Lib.hid r3
  have RB := Lib.hid rb
  clear hW5 r1 r3 rb a1 a2 a3 a4 b1 b2 b3 b4 d1 d2 d3 d4 d5 d6 M1 M3 MB e3 e4
  go_wp2_with (first
    | (refine wpList_load_row rfl 31 (.tmp 2) rfl w.heap.size rfl 31 _ (0, 0) _ R1.out Tryd.underlying31 rfl (size_of_crate Tryd.sizeCr _ ZL.out) ?_)
    | (refine wpList_store_row rfl 31 (.tmp 4) (.tmp 19) rfl (w.heap.size + 1 + 1) _ rfl rfl 31 _ R3.out (size_of_crate Tryd.sizeCr _ ZL.out) (by rw [ccells_size _ ZL.out]; rfl) (ccells_one _) ?_))
  exact bodyPost_ret (v := .agg (ccells Z).toArray) (results_cell_row rfl _ _ _ 31 _ (0, 0) _ rfl (CBlk.setRow (Y := Z) R3.out) Tryd.underlying31 rfl (size_of_crate Tryd.sizeCr _ ZL.out)) rfl ⟨rfl, Below.setRow RB.out _ _ (by omega)⟩

set_option maxRecDepth 100000 in
set_option maxHeartbeats 2000000 in
theorem swappedAll_any (bs : List Bot) (hwf : WfC bs) (xs : List Swp) (hxs : xs.all canS = true) (A : Option Addr) (c : Nat) (w : World) (hl : xs.length ≤ 1048576) (hr : Rd w w.heap.size scells A xs) :
    Calls Tryd.prog 68 #[.agg (ccells bs).toArray, .slice A xs.length c] w fun e w' => e = .returned (.agg (ccells (swTo bs xs xs.length)).toArray) ∧ Below w.heap.size w w' := by
  have HW := Lib.hid hwf
  have HX := Lib.hid hxs
  have HR := Lib.hid hr
  clear hwf hr hxs
  have h1 : CBlk ((w.alloc (.cells (ccells bs).toArray 31)).alloc (.cells #[.int .u8 0, .int .i16 0, .int .u8 0, .int .i16 0, .int .u8 0, .int .i16 0, .int .u8 0, .int .i16 0, .int .u8 0, .int .i16 0, .int .u8 0, .int .i16 0, .int .u8 0, .int .i16 0, .int .u8 0, .int .i16 0, .int .u8 0, .int .i16 0, .int .u8 0, .int .i16 0, .int .u8 0, .int .i16 0, .int .u8 0, .int .i16 0] 31)) w.heap.size 31 bs := (CBlk.new w _ bs).alloc _
  have h3 : CBlk ((w.alloc (.cells (ccells bs).toArray 31)).alloc (.cells #[.int .u8 0, .int .i16 0, .int .u8 0, .int .i16 0, .int .u8 0, .int .i16 0, .int .u8 0, .int .i16 0, .int .u8 0, .int .i16 0, .int .u8 0, .int .i16 0, .int .u8 0, .int .i16 0, .int .u8 0, .int .i16 0, .int .u8 0, .int .i16 0, .int .u8 0, .int .i16 0, .int .u8 0, .int .i16 0, .int .u8 0, .int .i16 0] 31)) (w.heap.size + 1) 31 noB := CBlk.new' (by simp) rfl
  have hb : Below w.heap.size w ((w.alloc (.cells (ccells bs).toArray 31)).alloc (.cells #[.int .u8 0, .int .i16 0, .int .u8 0, .int .i16 0, .int .u8 0, .int .i16 0, .int .u8 0, .int .i16 0, .int .u8 0, .int .i16 0, .int .u8 0, .int .i16 0, .int .u8 0, .int .i16 0, .int .u8 0, .int .i16 0, .int .u8 0, .int .i16 0, .int .u8 0, .int .i16 0, .int .u8 0, .int .i16 0, .int .u8 0, .int .i16 0] 31)) := (by repeat (first | exact Below.refl _ _ | refine Below.drew ?_ | refine Below.alloc ?_ (by simp <;> omega) _ | refine Below.setCell ?_ (by simp <;> omega) _))
  obtain ⟨W1, hW1⟩ : ∃ W1, ((w.alloc (.cells (ccells bs).toArray 31)).alloc (.cells #[.int .u8 0, .int .i16 0, .int .u8 0, .int .i16 0, .int .u8 0, .int .i16 0, .int .u8 0, .int .i16 0, .int .u8 0, .int .i16 0, .int .u8 0, .int .i16 0, .int .u8 0, .int .i16 0, .int .u8 0, .int .i16 0, .int .u8 0, .int .i16 0, .int .u8 0, .int .i16 0, .int .u8 0, .int .i16 0, .int .u8 0, .int .i16 0] 31)) = W1 := ⟨_, rfl⟩
  rw [hW1] at h1 h3 hb
  have H1 := Lib.hid h1
  have H3 := Lib.hid h3
  have HB := Lib.hid hb
  clear h1 h3 hb
  go_enter Tryd.func68, Tryd.ntmps68
  go_wp2_with fail
  clear hW1
  go_loopw [9] (fun i wr => ∃ k : Nat, k ≤ xs.length ∧ i = .int .i64 k ∧ CBlk wr w.heap.size 31 (swTo bs xs k) ∧ CBlk wr (w.heap.size + 1) 31 noB ∧ Below w.heap.size w wr) (fun i _ => xs.length - (intOf i).toNat)
  case atStart => exact ⟨0, by omega, rfl, H1.out, H3.out, HB.out⟩
  case round =>
    clear H1 H3 HB
    obtain ⟨k, hk, rfl, q2, q3, q4⟩ := hrel
    have Q2 := Lib.hid q2
    have Q3 := Lib.hid q3
    have Q4 := Lib.hid q4
    have QW := Lib.hid (swTo_wf HW.out HX.out k)
    clear q2 q3 q4
    by_cases hlt : k < xs.length
    · obtain ⟨⟨x, y⟩, hx⟩ : ∃ x, xs[k]? = some x := ⟨_, List.getElem?_eq_getElem hlt⟩
      have hcan := List.all_eq_true.1 HX.out _ (List.mem_of_getElem? hx)
      obtain ⟨i, j, hij, hi, hj⟩ := canS_nat hcan
      obtain ⟨rfl, rfl⟩ : x = i ∧ y = j := by simpa using hij
      obtain ⟨b, o, rfl, hbl, hrow⟩ := (HR.out.below (Nat.le_refl _) Q4.out).at_ scells_length hx
      obtain ⟨e1, e2⟩ := rowS hrow
      have hk0 : (0 : Int) ≤ (k : Int) := Int.natCast_nonneg _
      have hk8 : (k : Int) < xs.length := by omega
      have hsx := swTo_succ (X := bs) hx
      obtain ⟨X, hXe⟩ : ∃ X, swTo bs xs k = X := ⟨_, rfl⟩
      rw [hXe] at Q2 QW hsx
      have hY : (swB X ((i : Int), (j : Int))).length = 12 := (swB_wf QW.out hcan).1
      have HSx := Lib.hid hsx
      have HY := Lib.hid hY
      clear hcan hij hsx hXe hY hx hrow hbl
      have g2 : CBlk (wr.alloc (.cells #[.int .i8 (i : Int), .int .i8 (j : Int)] 35)) w.heap.size 31 X := Q2.out.alloc _
      have g3 : CBlk (wr.alloc (.cells #[.int .i8 (i : Int), .int .i8 (j : Int)] 35)) (w.heap.size + 1) 31 noB := Q3.out.alloc _
      have g4 : Below w.heap.size w (wr.alloc (.cells #[.int .i8 (i : Int), .int .i8 (j : Int)] 35)) := Q4.out.alloc Q4.out.size _
      have G2 := Lib.hid g2
      have G3 := Lib.hid g3
      have G4 := Lib.hid g4
      clear g2 g3 g4 Q2 Q3 Q4
      go_wp2_with (refine wpList_load_row rfl 31 (.tmp 2) rfl w.heap.size rfl 31 _ (0, 0) _ G2.out Tryd.underlying31 rfl (size_of_crate Tryd.sizeCr _ QW.out.1) ?_)
      refine (swapped_any X QW.out i j hi hj _).mono ?_
      rintro e w4 ⟨rfl, hb4⟩
      have F1 : Hid (CBlk w4 w.heap.size 31 X) := G2.out.below hb4 G2.out.lt
      have F3 : Hid (CBlk w4 (w.heap.size + 1) 31 noB) := G3.out.below hb4 G3.out.lt
      have F4 : Hid (Below w.heap.size w w4) := G4.out.trans (hb4.mono G4.out.size)
      clear hb4 G2 G3 G4 e1 e2
      obtain ⟨Y, hY⟩ : ∃ Y, swB X ((i : Int), (j : Int)) = Y := ⟨_, rfl⟩
      rw [hY] at HY HSx ⊢
      clear hY
      go_wp2_with (refine wpList_store_row rfl 31 (.tmp 2) (.tmp 15) rfl w.heap.size _ rfl rfl 31 _ F1.out (size_of_crate Tryd.sizeCr _ HY.out) (by rw [ccells_size _ QW.out.1, ccells_size _ HY.out]) (ccells_one _) ?_)
      go_roundw
      case rel => exact ⟨k + 1, by omega, by go_num, by rw [HSx.out]; exact CBlk.setRow F1.out, F3.out.rowOff (by omega) _, Below.setRow F4.out _ _ (Nat.le_refl _)⟩
      case measure => simp [intOf]; omega
    · obtain rfl : k = xs.length := by omega
      obtain ⟨Z, hZ⟩ : ∃ Z, swTo bs xs xs.length = Z := ⟨_, rfl⟩
      have QL := Lib.hid QW.out.1
      rw [hZ] at Q2 QL
      have HZ := Lib.hid hZ
      clear hZ QW
      go_wp2_with (first
        | (refine wpList_load_row rfl 31 (.tmp 2) rfl w.heap.size rfl 31 _ (0, 0) _ Q2.out Tryd.underlying31 rfl (size_of_crate Tryd.sizeCr _ QL.out) ?_)
        | (refine wpList_store_row rfl 31 (.tmp 4) (.tmp 17) rfl (w.heap.size + 1) _ rfl rfl 31 _ Q3.out (size_of_crate Tryd.sizeCr _ QL.out) (by rw [ccells_size _ QL.out]; rfl) (ccells_one _) ?_))
      exact bodyPost_ret (v := .agg (ccells Z).toArray) (results_cell_row rfl _ _ _ 31 _ (0, 0) _ rfl (CBlk.setRow (Y := Z) Q3.out) Tryd.underlying31 rfl (size_of_crate Tryd.sizeCr _ QL.out)) rfl ⟨by rw [HZ.out], Below.setRow Q4.out _ _ (by omega)⟩
end Go.Proofs.YtidfddemcjjgdaaDoor
