/-
  The contracts of the model's l03Can and l03Swapped. Condition: the crate's length, that its numbers fit their kinds, and that both numbers of the swap are places.
-/
import Derived.Test.YtidfddemcjjgdaaDoorSm
import Derived.Test.YtidfddemcjjgdaaDoorW
import Derived.Deep.RegionHeld3
namespace Go.Proofs.YtidfddemcjjgdaaDoor
open Go.ChangeShapes Go.WideShapes Go.ChangeAt Go.RowKit Go.Deep

theorem l03Can_any (x y : Int) (hx : -128 ≤ x ∧ x ≤ 127) (hy : -128 ≤ y ∧ y ≤ 127) (w : World) : Calls Tryd.prog 60 #[.agg #[.int .i8 x, .int .i8 y]] w fun e w' => e = .returned (.bool (canS (x, y))) ∧ Below w.heap.size w w' := by
  obtain ⟨x1, x2⟩ := hx
  obtain ⟨y1, y2⟩ := hy
  go_enter Tryd.func60, Tryd.ntmps60
  go_wp2
  all_goals (go_ret; exact ⟨ret_bool (by simp [canS, plI, *] <;> omega), (by repeat (first | exact Below.refl _ _ | refine Below.drew ?_ | refine Below.alloc ?_ (by simp <;> omega) _ | refine Below.setCell ?_ (by simp <;> omega) _))⟩)

set_option maxRecDepth 100000 in
set_option maxHeartbeats 2000000 in
theorem l03Swapped_any (bs : List Bot) (hwf : WfC bs) (i j : Nat) (hi : i < 12) (hj : j < 12) (w : World) : Calls Tryd.prog 61 #[.agg (ccells bs).toArray, .agg #[.int .i8 (i : Int), .int .i8 (j : Int)]] w
    fun e w' => e = .returned (.agg (ccells (swB bs ((i : Int), (j : Int)))).toArray) ∧ Below w.heap.size w w' := by
  have HW := Lib.hid hwf
  obtain ⟨ki, yi, hbi, -, -⟩ := hwf.at_ hi
  obtain ⟨kj, yj, hbj, -, -⟩ := hwf.at_ hj
  clear hwf
  rw [swB_nat hbi hbj]
  obtain ⟨Z, hZ⟩ : ∃ Z, (bs.set i (kj, yj)).set j (ki, yi) = Z := ⟨_, rfl⟩
  rw [hZ]
  have HZ := Lib.hid hZ
  clear hZ
  have h1 : CBlk (((w.alloc (.cells (ccells bs).toArray 31)).alloc (.cells #[.int .i8 (i : Int), .int .i8 (j : Int)] 35)).alloc (.cells #[.int .u8 0, .int .i16 0, .int .u8 0, .int .i16 0, .int .u8 0, .int .i16 0, .int .u8 0, .int .i16 0, .int .u8 0, .int .i16 0, .int .u8 0, .int .i16 0, .int .u8 0, .int .i16 0, .int .u8 0, .int .i16 0, .int .u8 0, .int .i16 0, .int .u8 0, .int .i16 0, .int .u8 0, .int .i16 0, .int .u8 0, .int .i16 0] 31)) w.heap.size 31 bs := ((CBlk.new w _ bs).alloc _).alloc _
  have h2 : Blk (((w.alloc (.cells (ccells bs).toArray 31)).alloc (.cells #[.int .i8 (i : Int), .int .i8 (j : Int)] 35)).alloc (.cells #[.int .u8 0, .int .i16 0, .int .u8 0, .int .i16 0, .int .u8 0, .int .i16 0, .int .u8 0, .int .i16 0, .int .u8 0, .int .i16 0, .int .u8 0, .int .i16 0, .int .u8 0, .int .i16 0, .int .u8 0, .int .i16 0, .int .u8 0, .int .i16 0, .int .u8 0, .int .i16 0, .int .u8 0, .int .i16 0, .int .u8 0, .int .i16 0] 31)) (w.heap.size + 1) 35 #[.int .i8 (i : Int), .int .i8 (j : Int)] := by
    refine Blk.alloc ?_ _
    exact Blk.new' (by simp) rfl
  have h3 : CBlk (((w.alloc (.cells (ccells bs).toArray 31)).alloc (.cells #[.int .i8 (i : Int), .int .i8 (j : Int)] 35)).alloc (.cells #[.int .u8 0, .int .i16 0, .int .u8 0, .int .i16 0, .int .u8 0, .int .i16 0, .int .u8 0, .int .i16 0, .int .u8 0, .int .i16 0, .int .u8 0, .int .i16 0, .int .u8 0, .int .i16 0, .int .u8 0, .int .i16 0, .int .u8 0, .int .i16 0, .int .u8 0, .int .i16 0, .int .u8 0, .int .i16 0, .int .u8 0, .int .i16 0] 31)) (w.heap.size + 1 + 1) 31 noB := CBlk.new' (by simp) rfl
  have hb : Below w.heap.size w (((w.alloc (.cells (ccells bs).toArray 31)).alloc (.cells #[.int .i8 (i : Int), .int .i8 (j : Int)] 35)).alloc (.cells #[.int .u8 0, .int .i16 0, .int .u8 0, .int .i16 0, .int .u8 0, .int .i16 0, .int .u8 0, .int .i16 0, .int .u8 0, .int .i16 0, .int .u8 0, .int .i16 0, .int .u8 0, .int .i16 0, .int .u8 0, .int .i16 0, .int .u8 0, .int .i16 0, .int .u8 0, .int .i16 0, .int .u8 0, .int .i16 0, .int .u8 0, .int .i16 0] 31)) := (by repeat (first | exact Below.refl _ _ | refine Below.drew ?_ | refine Below.alloc ?_ (by simp <;> omega) _ | refine Below.setCell ?_ (by simp <;> omega) _))
  have hI0 : (0 : Int) ≤ i := by omega
  have hI1 : (i : Int) < 12 := by omega
  have hJ0 : (0 : Int) ≤ j := by omega
  have hJ1 : (j : Int) < 12 := by omega
  obtain ⟨W1, hW1⟩ : ∃ W1, (((w.alloc (.cells (ccells bs).toArray 31)).alloc (.cells #[.int .i8 (i : Int), .int .i8 (j : Int)] 35)).alloc (.cells #[.int .u8 0, .int .i16 0, .int .u8 0, .int .i16 0, .int .u8 0, .int .i16 0, .int .u8 0, .int .i16 0, .int .u8 0, .int .i16 0, .int .u8 0, .int .i16 0, .int .u8 0, .int .i16 0, .int .u8 0, .int .i16 0, .int .u8 0, .int .i16 0, .int .u8 0, .int .i16 0, .int .u8 0, .int .i16 0, .int .u8 0, .int .i16 0] 31)) = W1 := ⟨_, rfl⟩
  rw [hW1] at h1 h2 h3 hb
  have HI := Lib.hid hbi
  have HJ := Lib.hid hbj
  have H1 := Lib.hid h1
  have H2 := Lib.hid h2
  have H3 := Lib.hid h3
  have HB := Lib.hid hb
  have e1 := h1.kind' hbi
  have e2 := h1.year' hbi
  have e3 : W1.cell? ⟨w.heap.size + 1, 0, none⟩ = some (.int .i8 (i : Int)) := h2.cell 0
  have e4 : W1.cell? ⟨w.heap.size + 1, 1, none⟩ = some (.int .i8 (j : Int)) := h2.cell 1
  clear h1 h2 h3 hb hbi hbj
  go_enter Tryd.func61, Tryd.ntmps61
  go_wp2_with fail
  obtain ⟨W2, hW2⟩ : ∃ W2, (W1.alloc (.cells #[.int .u8 ki, .int .i16 yi] 29)) = W2 := ⟨_, rfl⟩
  have g1 : CBlk W2 w.heap.size 31 bs := by rw [← hW2]; exact H1.out.alloc _
  have g2 : Blk W2 (w.heap.size + 1) 35 #[.int .i8 (i : Int), .int .i8 (j : Int)] := by rw [← hW2]; exact H2.out.alloc _
  have g3 : CBlk W2 (w.heap.size + 1 + 1) 31 noB := by rw [← hW2]; exact H3.out.alloc _
  have gx : CBlk W2 W1.heap.size 29 [(ki, yi)] := by rw [← hW2]; exact CBlk.new' rfl rfl
  have gb : Below w.heap.size w W2 := by rw [← hW2]; exact HB.out.alloc HB.out.size _
  have hne : w.heap.size + 1 + 1 < W1.heap.size := H3.out.lt
  rw [hW2]
  clear hW2 hW1 e1 e2 e3 e4 H1 H2 H3 HB
  have HN := Lib.hid hne
  have a1 := g1.kind' HI.out
  have a2 := g1.year' HI.out
  have a3 := g1.frozen (i * 2)
  have a4 := g1.frozen (i * 2 + 1)
  have b1 := g1.kind' HJ.out
  have b2 := g1.year' HJ.out
  have e3 : W2.cell? ⟨w.heap.size + 1, 0, none⟩ = some (.int .i8 (i : Int)) := g2.cell 0
  have e4 : W2.cell? ⟨w.heap.size + 1, 1, none⟩ = some (.int .i8 (j : Int)) := g2.cell 1
  have m1 : CBlk ((W2.setCell ⟨w.heap.size, i * 2, none⟩ (.int .u8 kj)).setCell ⟨w.heap.size, i * 2 + 1, none⟩ (.int .i16 yj)) w.heap.size 31 (bs.set i (kj, yj)) := g1.set i (by rw [HW.out.1]; exact hi) (kj, yj)
  have m2 : Blk ((W2.setCell ⟨w.heap.size, i * 2, none⟩ (.int .u8 kj)).setCell ⟨w.heap.size, i * 2 + 1, none⟩ (.int .i16 yj)) (w.heap.size + 1) 35 #[.int .i8 (i : Int), .int .i8 (j : Int)] := (g2.far (by show _ ≠ w.heap.size; omega) _).far (by show _ ≠ w.heap.size; omega) _
  have m3 : CBlk ((W2.setCell ⟨w.heap.size, i * 2, none⟩ (.int .u8 kj)).setCell ⟨w.heap.size, i * 2 + 1, none⟩ (.int .i16 yj)) (w.heap.size + 1 + 1) 31 noB := (g3.other (by omega) _ _).other (by omega) _ _
  have mx : CBlk ((W2.setCell ⟨w.heap.size, i * 2, none⟩ (.int .u8 kj)).setCell ⟨w.heap.size, i * 2 + 1, none⟩ (.int .i16 yj)) W1.heap.size 29 [(ki, yi)] := (gx.other (by omega) _ _).other (by omega) _ _
  have mb : Below w.heap.size w ((W2.setCell ⟨w.heap.size, i * 2, none⟩ (.int .u8 kj)).setCell ⟨w.heap.size, i * 2 + 1, none⟩ (.int .i16 yj)) := (gb.setCell (p := ⟨w.heap.size, i * 2, none⟩) (Nat.le_refl _) _).setCell (p := ⟨w.heap.size, i * 2 + 1, none⟩) (Nat.le_refl _) _
  have M1 := Lib.hid m1
  have M2 := Lib.hid m2
  have M3 := Lib.hid m3
  have MX := Lib.hid mx
  have MB := Lib.hid mb
  clear g1 g2 g3 gx gb m1 m2 m3 mx mb hne
  go_region
  have n1 : CBlk ((W2.setCell ⟨w.heap.size, i * 2, none⟩ (.int .u8 kj)).setCell ⟨w.heap.size, i * 2 + 1, none⟩ (.int .i16 yj)).drew w.heap.size 31 (bs.set i (kj, yj)) := M1.out
  have n2 : Blk ((W2.setCell ⟨w.heap.size, i * 2, none⟩ (.int .u8 kj)).setCell ⟨w.heap.size, i * 2 + 1, none⟩ (.int .i16 yj)).drew (w.heap.size + 1) 35 #[.int .i8 (i : Int), .int .i8 (j : Int)] := M2.out
  have n3 : CBlk ((W2.setCell ⟨w.heap.size, i * 2, none⟩ (.int .u8 kj)).setCell ⟨w.heap.size, i * 2 + 1, none⟩ (.int .i16 yj)).drew (w.heap.size + 1 + 1) 31 noB := M3.out
  have nx : CBlk ((W2.setCell ⟨w.heap.size, i * 2, none⟩ (.int .u8 kj)).setCell ⟨w.heap.size, i * 2 + 1, none⟩ (.int .i16 yj)).drew W1.heap.size 29 [(ki, yi)] := MX.out
  have nb : Below w.heap.size w ((W2.setCell ⟨w.heap.size, i * 2, none⟩ (.int .u8 kj)).setCell ⟨w.heap.size, i * 2 + 1, none⟩ (.int .i16 yj)).drew := MB.out.drew
  obtain ⟨W3, hW3⟩ : ∃ W3, ((W2.setCell ⟨w.heap.size, i * 2, none⟩ (.int .u8 kj)).setCell ⟨w.heap.size, i * 2 + 1, none⟩ (.int .i16 yj)).drew = W3 := ⟨_, rfl⟩
  rw [hW3] at n1 n2 n3 nx nb ⊢
  clear hW3 a1 a2 a3 a4 b1 b2 e3 e4 M1 M2 M3 MX MB
  have hyl : (bs.set i (kj, yj)).length = 12 := by rw [List.length_set]; exact HW.out.1
  obtain ⟨⟨kq, yq⟩, hq⟩ : ∃ q, (bs.set i (kj, yj))[j]? = some q := ⟨_, List.getElem?_eq_getElem (by rw [hyl]; exact hj)⟩
  have a1 := n1.kind' hq
  have a2 := n1.year' hq
  have a3 := n1.frozen (j * 2)
  have a4 := n1.frozen (j * 2 + 1)
  have e4 : W3.cell? ⟨w.heap.size + 1, 1, none⟩ = some (.int .i8 (j : Int)) := n2.cell 1
  have x1 : W3.cell? ⟨W1.heap.size, 0, none⟩ = some (.int .u8 ki) := nx.kind 0 (by simp)
  have x2 : W3.cell? ⟨W1.heap.size, 1, none⟩ = some (.int .i16 yi) := nx.year 0 (by simp)
  have q1 : CBlk ((W3.setCell ⟨w.heap.size, j * 2, none⟩ (.int .u8 ki)).setCell ⟨w.heap.size, j * 2 + 1, none⟩ (.int .i16 yi)) w.heap.size 31 ((bs.set i (kj, yj)).set j (ki, yi)) := n1.set j (by rw [hyl]; exact hj) (ki, yi)
  have q3 : CBlk ((W3.setCell ⟨w.heap.size, j * 2, none⟩ (.int .u8 ki)).setCell ⟨w.heap.size, j * 2 + 1, none⟩ (.int .i16 yi)) (w.heap.size + 1 + 1) 31 noB := (n3.other (by omega) _ _).other (by omega) _ _
  have qb : Below w.heap.size w ((W3.setCell ⟨w.heap.size, j * 2, none⟩ (.int .u8 ki)).setCell ⟨w.heap.size, j * 2 + 1, none⟩ (.int .i16 yi)) := (nb.setCell (p := ⟨w.heap.size, j * 2, none⟩) (Nat.le_refl _) _).setCell (p := ⟨w.heap.size, j * 2 + 1, none⟩) (Nat.le_refl _) _
  have hzl : ((bs.set i (kj, yj)).set j (ki, yi)).length = 12 := by rw [List.length_set]; exact hyl
  rw [HZ.out] at q1 hzl
  obtain ⟨W4, hW4⟩ : ∃ W4, ((W3.setCell ⟨w.heap.size, j * 2, none⟩ (.int .u8 ki)).setCell ⟨w.heap.size, j * 2 + 1, none⟩ (.int .i16 yi)) = W4 := ⟨_, rfl⟩
  rw [hW4] at q1 q3 qb
  have Q1 := Lib.hid q1
  have Q3 := Lib.hid q3
  have QB := Lib.hid qb
  have ZL := Lib.hid hzl
  clear n1 n2 n3 nx nb q1 q3 qb hq hyl hzl HZ HI HJ HW
  go_wp2_with (first
    | (refine wpList_load_row rfl 31 (.tmp 2) rfl w.heap.size rfl 31 _ (0, 0) _ Q1.out Tryd.underlying31 rfl (size_of_crate Tryd.sizeCr _ ZL.out) ?_)
    | (refine wpList_store_row rfl 31 (.tmp 4) (.tmp 21) rfl (w.heap.size + 1 + 1) _ rfl rfl 31 _ Q3.out (size_of_crate Tryd.sizeCr _ ZL.out) (by rw [ccells_size _ ZL.out]; rfl) (ccells_one _) ?_))
  exact bodyPost_ret (v := .agg (ccells Z).toArray) (results_cell_row rfl _ _ _ 31 _ (0, 0) _ rfl (CBlk.setRow (Y := Z) Q3.out) Tryd.underlying31 rfl (size_of_crate Tryd.sizeCr _ ZL.out)) rfl ⟨rfl, Below.setRow QB.out _ _ (by omega)⟩
end Go.Proofs.YtidfddemcjjgdaaDoor
