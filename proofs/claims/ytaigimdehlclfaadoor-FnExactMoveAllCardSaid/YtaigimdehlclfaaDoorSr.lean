/-
  The contracts of the program's swapped, swappedAll, SwapAll, SwapPlaces. Condition: the crate's length, that its numbers and those of the swaps fit their kinds; the sentinel errors lie as the row lists them.
-/
import Derived.Test.YtaigimdehlclfaaDoorSq
import Derived.Test.YtaigimdehlclfaaDoorEr
namespace Go.Proofs.YtaigimdehlclfaaDoor
open Go.ChangeShapes Go.WideShapes Go.ChangeAt Go.RowKit Go.Deep

set_option maxRecDepth 100000 in
set_option maxHeartbeats 4000000 in
theorem swapped_any (bs : List Bot) (hwf : WfC bs) (i j : Nat) (hi : i < 12) (hj : j < 12) (w : World) : Calls Tryd.prog 37 #[.agg (ccells bs).toArray, .agg #[.int .i8 (i : Int), .int .i8 (j : Int)]] w
    fun e w' => e = .returned (.agg (ccells (swB bs ((i : Int), (j : Int)))).toArray) ∧ Below w.heap.size w w' := by
  have HW := Lib.hid hwf
  obtain ⟨ki, yi, hbi, -, -⟩ := hwf.at_ hi
  obtain ⟨kj, yj, hbj, -, -⟩ := hwf.at_ hj
  clear hwf
  rw [swB_nat hbi hbj]
  obtain ⟨Z, hZ⟩ : ∃ Z, (bs.set i (kj, yj)).set j (ki, yi) = Z := ⟨_, rfl⟩
  have hyl : (bs.set i (kj, yj)).length = 12 := by rw [List.length_set]; exact HW.out.1
  have hzl : ((bs.set i (kj, yj)).set j (ki, yi)).length = 12 := by rw [List.length_set]; exact hyl
  rw [hZ] at hzl ⊢
  have HZ := Lib.hid hZ
  have ZL := Lib.hid hzl
  clear hZ hzl
  have h1 : CBlk (((w.alloc (.cells (ccells bs).toArray 30)).alloc (.cells #[.int .i8 (i : Int), .int .i8 (j : Int)] 44)).alloc (.cells #[.int .u8 0, .int .i16 0, .int .u8 0, .int .i16 0, .int .u8 0, .int .i16 0, .int .u8 0, .int .i16 0, .int .u8 0, .int .i16 0, .int .u8 0, .int .i16 0, .int .u8 0, .int .i16 0, .int .u8 0, .int .i16 0, .int .u8 0, .int .i16 0, .int .u8 0, .int .i16 0, .int .u8 0, .int .i16 0, .int .u8 0, .int .i16 0] 30)) w.heap.size 30 bs := ((CBlk.new w _ bs).alloc _).alloc _
  have h2 : Blk (((w.alloc (.cells (ccells bs).toArray 30)).alloc (.cells #[.int .i8 (i : Int), .int .i8 (j : Int)] 44)).alloc (.cells #[.int .u8 0, .int .i16 0, .int .u8 0, .int .i16 0, .int .u8 0, .int .i16 0, .int .u8 0, .int .i16 0, .int .u8 0, .int .i16 0, .int .u8 0, .int .i16 0, .int .u8 0, .int .i16 0, .int .u8 0, .int .i16 0, .int .u8 0, .int .i16 0, .int .u8 0, .int .i16 0, .int .u8 0, .int .i16 0, .int .u8 0, .int .i16 0] 30)) (w.heap.size + 1) 44 #[.int .i8 (i : Int), .int .i8 (j : Int)] := by
    refine Blk.alloc ?_ _
    exact Blk.new' (by simp) rfl
  have h3 : CBlk (((w.alloc (.cells (ccells bs).toArray 30)).alloc (.cells #[.int .i8 (i : Int), .int .i8 (j : Int)] 44)).alloc (.cells #[.int .u8 0, .int .i16 0, .int .u8 0, .int .i16 0, .int .u8 0, .int .i16 0, .int .u8 0, .int .i16 0, .int .u8 0, .int .i16 0, .int .u8 0, .int .i16 0, .int .u8 0, .int .i16 0, .int .u8 0, .int .i16 0, .int .u8 0, .int .i16 0, .int .u8 0, .int .i16 0, .int .u8 0, .int .i16 0, .int .u8 0, .int .i16 0] 30)) (w.heap.size + 1 + 1) 30 noB := CBlk.new' (by simp) rfl
  have hb : Below w.heap.size w (((w.alloc (.cells (ccells bs).toArray 30)).alloc (.cells #[.int .i8 (i : Int), .int .i8 (j : Int)] 44)).alloc (.cells #[.int .u8 0, .int .i16 0, .int .u8 0, .int .i16 0, .int .u8 0, .int .i16 0, .int .u8 0, .int .i16 0, .int .u8 0, .int .i16 0, .int .u8 0, .int .i16 0, .int .u8 0, .int .i16 0, .int .u8 0, .int .i16 0, .int .u8 0, .int .i16 0, .int .u8 0, .int .i16 0, .int .u8 0, .int .i16 0, .int .u8 0, .int .i16 0] 30)) := (by repeat (first | exact Below.refl _ _ | refine Below.drew ?_ | refine Below.alloc ?_ (by simp <;> omega) _ | refine Below.setCell ?_ (by simp <;> omega) _))
  have hI0 : (0 : Int) ≤ i := by omega
  have hI1 : (i : Int) < 12 := by omega
  have hJ0 : (0 : Int) ≤ j := by omega
  have hJ1 : (j : Int) < 12 := by omega
  obtain ⟨W1, hW1⟩ : ∃ W1, (((w.alloc (.cells (ccells bs).toArray 30)).alloc (.cells #[.int .i8 (i : Int), .int .i8 (j : Int)] 44)).alloc (.cells #[.int .u8 0, .int .i16 0, .int .u8 0, .int .i16 0, .int .u8 0, .int .i16 0, .int .u8 0, .int .i16 0, .int .u8 0, .int .i16 0, .int .u8 0, .int .i16 0, .int .u8 0, .int .i16 0, .int .u8 0, .int .i16 0, .int .u8 0, .int .i16 0, .int .u8 0, .int .i16 0, .int .u8 0, .int .i16 0, .int .u8 0, .int .i16 0] 30)) = W1 := ⟨_, rfl⟩
  rw [hW1] at h1 h2 h3 hb
  have a1 := h1.kind' hbi
  have a2 := h1.year' hbi
  have a3 := h1.frozen (i * 2)
  have a4 := h1.frozen (i * 2 + 1)
  have b1 := h1.kind' hbj
  have b2 := h1.year' hbj
  have b3 := h1.frozen (j * 2)
  have b4 := h1.frozen (j * 2 + 1)
  have e3 : W1.cell? ⟨w.heap.size + 1, 0, none⟩ = some (.int .i8 (i : Int)) := h2.cell 0
  have e4 : W1.cell? ⟨w.heap.size + 1, 1, none⟩ = some (.int .i8 (j : Int)) := h2.cell 1
  have n1 : CBlk ((W1.setCell ⟨w.heap.size, i * 2, none⟩ (.int .u8 kj)).setCell ⟨w.heap.size, i * 2 + 1, none⟩ (.int .i16 yj)).drew w.heap.size 30 (bs.set i (kj, yj)) := h1.set i (by rw [HW.out.1]; exact hi) (kj, yj)
  obtain ⟨⟨kq, yq⟩, hq⟩ : ∃ q, (bs.set i (kj, yj))[j]? = some q := ⟨_, List.getElem?_eq_getElem (by rw [hyl]; exact hj)⟩
  have d1 := n1.kind' hq
  have d2 := n1.year' hq
  have d3 := n1.frozen (j * 2)
  have d4 := n1.frozen (j * 2 + 1)
  have d5 : (((W1.setCell ⟨w.heap.size, i * 2, none⟩ (.int .u8 kj)).setCell ⟨w.heap.size, i * 2 + 1, none⟩ (.int .i16 yj)).setCell ⟨w.heap.size, j * 2, none⟩ (.int .u8 ki)).drew.cell? ⟨w.heap.size, j * 2 + 1, none⟩ = some (.int .i16 yq) := (World.cell?_setCell_other _ _ _ _ (by simp)).trans d2
  have d6 : (((W1.setCell ⟨w.heap.size, i * 2, none⟩ (.int .u8 kj)).setCell ⟨w.heap.size, i * 2 + 1, none⟩ (.int .i16 yj)).setCell ⟨w.heap.size, j * 2, none⟩ (.int .u8 ki)).drew.frozen? ⟨w.heap.size, j * 2 + 1, none⟩ = false := (World.frozen?_setCell _ _ _ _).trans d4
  have m1 : CBlk ((((W1.setCell ⟨w.heap.size, i * 2, none⟩ (.int .u8 kj)).setCell ⟨w.heap.size, i * 2 + 1, none⟩ (.int .i16 yj)).setCell ⟨w.heap.size, j * 2, none⟩ (.int .u8 ki)).setCell ⟨w.heap.size, j * 2 + 1, none⟩ (.int .i16 yi)) w.heap.size 30 Z := by
    have := (h1.set i (by rw [HW.out.1]; exact hi) (kj, yj)).set j (by rw [hyl]; exact hj) (ki, yi)
    rw [HZ.out] at this; exact this
  have m3 : CBlk ((((W1.setCell ⟨w.heap.size, i * 2, none⟩ (.int .u8 kj)).setCell ⟨w.heap.size, i * 2 + 1, none⟩ (.int .i16 yj)).setCell ⟨w.heap.size, j * 2, none⟩ (.int .u8 ki)).setCell ⟨w.heap.size, j * 2 + 1, none⟩ (.int .i16 yi)) (w.heap.size + 1 + 1) 30 noB := (((h3.other (by omega) _ _).other (by omega) _ _).other (by omega) _ _).other (by omega) _ _
  have mb : Below w.heap.size w ((((W1.setCell ⟨w.heap.size, i * 2, none⟩ (.int .u8 kj)).setCell ⟨w.heap.size, i * 2 + 1, none⟩ (.int .i16 yj)).setCell ⟨w.heap.size, j * 2, none⟩ (.int .u8 ki)).setCell ⟨w.heap.size, j * 2 + 1, none⟩ (.int .i16 yi)) := (((hb.setCell (p := ⟨w.heap.size, i * 2, none⟩) (Nat.le_refl _) _).setCell (p := ⟨w.heap.size, i * 2 + 1, none⟩) (Nat.le_refl _) _).setCell (p := ⟨w.heap.size, j * 2, none⟩) (Nat.le_refl _) _).setCell (p := ⟨w.heap.size, j * 2 + 1, none⟩) (Nat.le_refl _) _
  have M1 := Lib.hid m1
  have M3 := Lib.hid m3
  have MB := Lib.hid mb
  clear h1 h2 h3 hb hbi hbj n1 hq m1 m3 mb hyl HZ
  go_enter Tryd.func37, Tryd.ntmps37
  go_wp2_with fail
  clear hW1
  go_region
  have r1 : CBlk ((((W1.setCell ⟨w.heap.size, i * 2, none⟩ (.int .u8 kj)).setCell ⟨w.heap.size, i * 2 + 1, none⟩ (.int .i16 yj)).setCell ⟨w.heap.size, j * 2, none⟩ (.int .u8 ki)).setCell ⟨w.heap.size, j * 2 + 1, none⟩ (.int .i16 yi)).drew w.heap.size 30 Z := M1.out
  have r3 : CBlk ((((W1.setCell ⟨w.heap.size, i * 2, none⟩ (.int .u8 kj)).setCell ⟨w.heap.size, i * 2 + 1, none⟩ (.int .i16 yj)).setCell ⟨w.heap.size, j * 2, none⟩ (.int .u8 ki)).setCell ⟨w.heap.size, j * 2 + 1, none⟩ (.int .i16 yi)).drew (w.heap.size + 1 + 1) 30 noB := M3.out
  have rb : Below w.heap.size w ((((W1.setCell ⟨w.heap.size, i * 2, none⟩ (.int .u8 kj)).setCell ⟨w.heap.size, i * 2 + 1, none⟩ (.int .i16 yj)).setCell ⟨w.heap.size, j * 2, none⟩ (.int .u8 ki)).setCell ⟨w.heap.size, j * 2 + 1, none⟩ (.int .i16 yi)).drew := MB.out.drew
  obtain ⟨W5, hW5⟩ : ∃ W5, ((((W1.setCell ⟨w.heap.size, i * 2, none⟩ (.int .u8 kj)).setCell ⟨w.heap.size, i * 2 + 1, none⟩ (.int .i16 yj)).setCell ⟨w.heap.size, j * 2, none⟩ (.int .u8 ki)).setCell ⟨w.heap.size, j * 2 + 1, none⟩ (.int .i16 yi)).drew = W5 := ⟨_, rfl⟩
  rw [hW5] at r1 r3 rb ⊢
  have R1 := Lib.hid r1
  have R3 := Lib.hid r3
  have RB := Lib.hid rb
  clear hW5 r1 r3 rb a1 a2 a3 a4 b1 b2 b3 b4 d1 d2 d3 d4 d5 d6 M1 M3 MB e3 e4
  go_wp2_with (first
    | (refine wpList_load_row rfl 30 (.tmp 2) rfl w.heap.size rfl 30 _ (0, 0) _ R1.out Tryd.underlying30 rfl (size_of_crate Tryd.sizeCr _ ZL.out) ?_)
    | (refine wpList_store_row rfl 30 (.tmp 4) (.tmp 19) rfl (w.heap.size + 1 + 1) _ rfl rfl 30 _ R3.out (size_of_crate Tryd.sizeCr _ ZL.out) (by rw [ccells_size _ ZL.out]; rfl) (ccells_one _) ?_))
  exact bodyPost_ret (v := .agg (ccells Z).toArray) (results_cell_row rfl _ _ _ 30 _ (0, 0) _ rfl (CBlk.setRow (Y := Z) R3.out) Tryd.underlying30 rfl (size_of_crate Tryd.sizeCr _ ZL.out)) rfl ⟨rfl, Below.setRow RB.out _ _ (by omega)⟩

end Go.Proofs.YtaigimdehlclfaaDoor
