/-
  The contracts of the model's TakeBottle. No condition but the crate's length and that its numbers fit their kinds.
-/
import Derived.Test.YtjiihdljchaeiadDoorW
namespace Go.Proofs.YtjiihdljchaeiadDoor
open Go.ChangeShapes Go.WideShapes Go.ChangeAt Go.RowKit Go.Deep

set_option maxRecDepth 100000 in
set_option maxHeartbeats 1000000 in
theorem specTake_bad (bs : List Bot) (hwf : WfC bs) (n : Int) (hok : okC bs = false) (w : World) : Calls Tryd.prog 12 #[.agg (ccells bs).toArray, .int .i64 n] w fun e w' => e = .returned (takeV noB (0, 0) 1) ∧ Below w.heap.size w w' := by
  have HW := Lib.hid hwf
  clear hwf
  have h1 : CBlk (((w.alloc (.cells (ccells bs).toArray 28)).alloc (.cells #[.int .u8 0, .int .i16 0, .int .u8 0, .int .i16 0, .int .u8 0, .int .i16 0, .int .u8 0, .int .i16 0, .int .u8 0, .int .i16 0, .int .u8 0, .int .i16 0, .int .u8 0, .int .i16 0, .int .u8 0, .int .i16 0, .int .u8 0, .int .i16 0, .int .u8 0, .int .i16 0, .int .u8 0, .int .i16 0, .int .u8 0, .int .i16 0] 28)).alloc (.cells #[.int .u8 0, .int .i16 0] 26)) w.heap.size 28 bs := ((CBlk.new w 28 bs).alloc _).alloc _
  have h2 : CBlk (((w.alloc (.cells (ccells bs).toArray 28)).alloc (.cells #[.int .u8 0, .int .i16 0, .int .u8 0, .int .i16 0, .int .u8 0, .int .i16 0, .int .u8 0, .int .i16 0, .int .u8 0, .int .i16 0, .int .u8 0, .int .i16 0, .int .u8 0, .int .i16 0, .int .u8 0, .int .i16 0, .int .u8 0, .int .i16 0, .int .u8 0, .int .i16 0, .int .u8 0, .int .i16 0, .int .u8 0, .int .i16 0] 28)).alloc (.cells #[.int .u8 0, .int .i16 0] 26)) (w.heap.size + 1) 28 noB := by
    refine CBlk.alloc ?_ _
    exact CBlk.new' (by simp) rfl
  have h3 : CBlk (((w.alloc (.cells (ccells bs).toArray 28)).alloc (.cells #[.int .u8 0, .int .i16 0, .int .u8 0, .int .i16 0, .int .u8 0, .int .i16 0, .int .u8 0, .int .i16 0, .int .u8 0, .int .i16 0, .int .u8 0, .int .i16 0, .int .u8 0, .int .i16 0, .int .u8 0, .int .i16 0, .int .u8 0, .int .i16 0, .int .u8 0, .int .i16 0, .int .u8 0, .int .i16 0, .int .u8 0, .int .i16 0] 28)).alloc (.cells #[.int .u8 0, .int .i16 0] 26)) (w.heap.size + 1 + 1) 26 [(0, 0)] := CBlk.new' (by simp) rfl
  have h4 : Below w.heap.size w (((w.alloc (.cells (ccells bs).toArray 28)).alloc (.cells #[.int .u8 0, .int .i16 0, .int .u8 0, .int .i16 0, .int .u8 0, .int .i16 0, .int .u8 0, .int .i16 0, .int .u8 0, .int .i16 0, .int .u8 0, .int .i16 0, .int .u8 0, .int .i16 0, .int .u8 0, .int .i16 0, .int .u8 0, .int .i16 0, .int .u8 0, .int .i16 0, .int .u8 0, .int .i16 0, .int .u8 0, .int .i16 0] 28)).alloc (.cells #[.int .u8 0, .int .i16 0] 26)) := (by repeat (first | exact Below.refl _ _ | refine Below.drew ?_ | refine Below.alloc ?_ (by simp <;> omega) _ | refine Below.setCell ?_ (by simp <;> omega) _))
  have H1 := Lib.hid h1
  have H2 := Lib.hid h2
  have H3 := Lib.hid h3
  have H4 := Lib.hid h4
  clear h1 h2 h3 h4
  go_enter Tryd.func12, Tryd.ntmps12
  go_wp2_with fail
  refine (l01Ok_any bs HW.out _ _ H1.out).mono ?_
  rintro e w1 ⟨rfl, hb1⟩
  have HB1 : Hid (Below w.heap.size w w1) := H4.out.trans (hb1.mono H4.out.size)
  have K1 : Hid (CBlk w1 w.heap.size 28 bs) := H1.out.below hb1 H1.out.lt
  have K2 : Hid (CBlk w1 (w.heap.size + 1) 28 noB) := H2.out.below hb1 H2.out.lt
  have K3 : Hid (CBlk w1 (w.heap.size + 1 + 1) 26 [(0, 0)]) := H3.out.below hb1 H3.out.lt
  have K4 : Hid (CBlk (w1.setRow (w.heap.size + 1) (ccells noB).toArray) (w.heap.size + 1 + 1) 26 [(0, 0)]) := K3.out.rowOff (by omega) _
  clear hb1 H1 H2 H3 H4
  rw [hok]
  go_wp2_with
    (first
    | (refine wpList_store_row rfl 28 (.tmp 4) (.tmp 10) rfl (w.heap.size + 1) (ccells noB).toArray rfl rfl 28 _ K2.out (size_of_crate Tryd.sizeCr _ rfl) rfl (ccells_one _) ?_)
    | (refine wpList_store_row rfl 26 (.tmp 5) (.tmp 11) rfl (w.heap.size + 1 + 1) (ccells [(0, 0)]).toArray rfl rfl 26 _ K4.out (size_of_bot Tryd.sizeBt _) rfl (ccells_one _) ?_))
  exact bodyPost_ret (v := takeV noB (0, 0) 1) (results_cct (v2 := .int .i64 1) rfl _ (by rfl) _ _ _ 28 26 _ _ (0, 0) (0, 0) _ _ rfl rfl ((CBlk.setRow (Y := noB) K2.out).rowOff (by omega) _) (K4.out.setRow (Y := [(0, 0)])) Tryd.underlying28 rfl (size_of_crate Tryd.sizeCr _ rfl) Tryd.underlying26 rfl (size_of_bot Tryd.sizeBt _)) rfl ⟨rfl, Below.setRow (Below.setRow HB1.out _ _ (by omega)) _ _ (by omega)⟩

set_option maxRecDepth 100000 in
set_option maxHeartbeats 1000000 in
theorem specTake_range0 (bs : List Bot) (hwf : WfC bs) (n : Int) (hok : okC bs = true) (hn : n < 0) (w : World) : Calls Tryd.prog 12 #[.agg (ccells bs).toArray, .int .i64 n] w fun e w' => e = .returned (takeV noB (0, 0) 2) ∧ Below w.heap.size w w' := by
  have HW := Lib.hid hwf
  clear hwf
  have h1 : CBlk (((w.alloc (.cells (ccells bs).toArray 28)).alloc (.cells #[.int .u8 0, .int .i16 0, .int .u8 0, .int .i16 0, .int .u8 0, .int .i16 0, .int .u8 0, .int .i16 0, .int .u8 0, .int .i16 0, .int .u8 0, .int .i16 0, .int .u8 0, .int .i16 0, .int .u8 0, .int .i16 0, .int .u8 0, .int .i16 0, .int .u8 0, .int .i16 0, .int .u8 0, .int .i16 0, .int .u8 0, .int .i16 0] 28)).alloc (.cells #[.int .u8 0, .int .i16 0] 26)) w.heap.size 28 bs := ((CBlk.new w 28 bs).alloc _).alloc _
  have h2 : CBlk (((w.alloc (.cells (ccells bs).toArray 28)).alloc (.cells #[.int .u8 0, .int .i16 0, .int .u8 0, .int .i16 0, .int .u8 0, .int .i16 0, .int .u8 0, .int .i16 0, .int .u8 0, .int .i16 0, .int .u8 0, .int .i16 0, .int .u8 0, .int .i16 0, .int .u8 0, .int .i16 0, .int .u8 0, .int .i16 0, .int .u8 0, .int .i16 0, .int .u8 0, .int .i16 0, .int .u8 0, .int .i16 0] 28)).alloc (.cells #[.int .u8 0, .int .i16 0] 26)) (w.heap.size + 1) 28 noB := by
    refine CBlk.alloc ?_ _
    exact CBlk.new' (by simp) rfl
  have h3 : CBlk (((w.alloc (.cells (ccells bs).toArray 28)).alloc (.cells #[.int .u8 0, .int .i16 0, .int .u8 0, .int .i16 0, .int .u8 0, .int .i16 0, .int .u8 0, .int .i16 0, .int .u8 0, .int .i16 0, .int .u8 0, .int .i16 0, .int .u8 0, .int .i16 0, .int .u8 0, .int .i16 0, .int .u8 0, .int .i16 0, .int .u8 0, .int .i16 0, .int .u8 0, .int .i16 0, .int .u8 0, .int .i16 0] 28)).alloc (.cells #[.int .u8 0, .int .i16 0] 26)) (w.heap.size + 1 + 1) 26 [(0, 0)] := CBlk.new' (by simp) rfl
  have h4 : Below w.heap.size w (((w.alloc (.cells (ccells bs).toArray 28)).alloc (.cells #[.int .u8 0, .int .i16 0, .int .u8 0, .int .i16 0, .int .u8 0, .int .i16 0, .int .u8 0, .int .i16 0, .int .u8 0, .int .i16 0, .int .u8 0, .int .i16 0, .int .u8 0, .int .i16 0, .int .u8 0, .int .i16 0, .int .u8 0, .int .i16 0, .int .u8 0, .int .i16 0, .int .u8 0, .int .i16 0, .int .u8 0, .int .i16 0] 28)).alloc (.cells #[.int .u8 0, .int .i16 0] 26)) := (by repeat (first | exact Below.refl _ _ | refine Below.drew ?_ | refine Below.alloc ?_ (by simp <;> omega) _ | refine Below.setCell ?_ (by simp <;> omega) _))
  have H1 := Lib.hid h1
  have H2 := Lib.hid h2
  have H3 := Lib.hid h3
  have H4 := Lib.hid h4
  clear h1 h2 h3 h4
  go_enter Tryd.func12, Tryd.ntmps12
  go_wp2_with fail
  refine (l01Ok_any bs HW.out _ _ H1.out).mono ?_
  rintro e w1 ⟨rfl, hb1⟩
  have HB1 : Hid (Below w.heap.size w w1) := H4.out.trans (hb1.mono H4.out.size)
  have K1 : Hid (CBlk w1 w.heap.size 28 bs) := H1.out.below hb1 H1.out.lt
  have K2 : Hid (CBlk w1 (w.heap.size + 1) 28 noB) := H2.out.below hb1 H2.out.lt
  have K3 : Hid (CBlk w1 (w.heap.size + 1 + 1) 26 [(0, 0)]) := H3.out.below hb1 H3.out.lt
  have K4 : Hid (CBlk (w1.setRow (w.heap.size + 1) (ccells noB).toArray) (w.heap.size + 1 + 1) 26 [(0, 0)]) := K3.out.rowOff (by omega) _
  clear hb1 H1 H2 H3 H4
  rw [hok]
  have hx := hn
  go_wp2_with
    (first
    | (go_at_call 21; go_in)
    | (go_at_call 33; go_in)
    | (refine wpList_store_row rfl 28 (.tmp 4) (.tmp 15) rfl (w.heap.size + 1) (ccells noB).toArray rfl rfl 28 _ K2.out (size_of_crate Tryd.sizeCr _ rfl) rfl (ccells_one _) ?_)
    | (refine wpList_store_row rfl 26 (.tmp 5) (.tmp 16) rfl (w.heap.size + 1 + 1) (ccells [(0, 0)]).toArray rfl rfl 26 _ K4.out (size_of_bot Tryd.sizeBt _) rfl (ccells_one _) ?_))
  exact bodyPost_ret (v := takeV noB (0, 0) 2) (results_cct (v2 := .int .i64 2) rfl _ (by rfl) _ _ _ 28 26 _ _ (0, 0) (0, 0) _ _ rfl rfl ((CBlk.setRow (Y := noB) K2.out).rowOff (by omega) _) (K4.out.setRow (Y := [(0, 0)])) Tryd.underlying28 rfl (size_of_crate Tryd.sizeCr _ rfl) Tryd.underlying26 rfl (size_of_bot Tryd.sizeBt _)) rfl ⟨rfl, Below.setRow (Below.setRow HB1.out _ _ (by omega)) _ _ (by omega)⟩

set_option maxRecDepth 100000 in
set_option maxHeartbeats 1000000 in
theorem specTake_range1 (bs : List Bot) (hwf : WfC bs) (n : Int) (hok : okC bs = true) (hn : 11 < n) (w : World) : Calls Tryd.prog 12 #[.agg (ccells bs).toArray, .int .i64 n] w fun e w' => e = .returned (takeV noB (0, 0) 2) ∧ Below w.heap.size w w' := by
  have HW := Lib.hid hwf
  clear hwf
  have h1 : CBlk (((w.alloc (.cells (ccells bs).toArray 28)).alloc (.cells #[.int .u8 0, .int .i16 0, .int .u8 0, .int .i16 0, .int .u8 0, .int .i16 0, .int .u8 0, .int .i16 0, .int .u8 0, .int .i16 0, .int .u8 0, .int .i16 0, .int .u8 0, .int .i16 0, .int .u8 0, .int .i16 0, .int .u8 0, .int .i16 0, .int .u8 0, .int .i16 0, .int .u8 0, .int .i16 0, .int .u8 0, .int .i16 0] 28)).alloc (.cells #[.int .u8 0, .int .i16 0] 26)) w.heap.size 28 bs := ((CBlk.new w 28 bs).alloc _).alloc _
  have h2 : CBlk (((w.alloc (.cells (ccells bs).toArray 28)).alloc (.cells #[.int .u8 0, .int .i16 0, .int .u8 0, .int .i16 0, .int .u8 0, .int .i16 0, .int .u8 0, .int .i16 0, .int .u8 0, .int .i16 0, .int .u8 0, .int .i16 0, .int .u8 0, .int .i16 0, .int .u8 0, .int .i16 0, .int .u8 0, .int .i16 0, .int .u8 0, .int .i16 0, .int .u8 0, .int .i16 0, .int .u8 0, .int .i16 0] 28)).alloc (.cells #[.int .u8 0, .int .i16 0] 26)) (w.heap.size + 1) 28 noB := by
    refine CBlk.alloc ?_ _
    exact CBlk.new' (by simp) rfl
  have h3 : CBlk (((w.alloc (.cells (ccells bs).toArray 28)).alloc (.cells #[.int .u8 0, .int .i16 0, .int .u8 0, .int .i16 0, .int .u8 0, .int .i16 0, .int .u8 0, .int .i16 0, .int .u8 0, .int .i16 0, .int .u8 0, .int .i16 0, .int .u8 0, .int .i16 0, .int .u8 0, .int .i16 0, .int .u8 0, .int .i16 0, .int .u8 0, .int .i16 0, .int .u8 0, .int .i16 0, .int .u8 0, .int .i16 0] 28)).alloc (.cells #[.int .u8 0, .int .i16 0] 26)) (w.heap.size + 1 + 1) 26 [(0, 0)] := CBlk.new' (by simp) rfl
  have h4 : Below w.heap.size w (((w.alloc (.cells (ccells bs).toArray 28)).alloc (.cells #[.int .u8 0, .int .i16 0, .int .u8 0, .int .i16 0, .int .u8 0, .int .i16 0, .int .u8 0, .int .i16 0, .int .u8 0, .int .i16 0, .int .u8 0, .int .i16 0, .int .u8 0, .int .i16 0, .int .u8 0, .int .i16 0, .int .u8 0, .int .i16 0, .int .u8 0, .int .i16 0, .int .u8 0, .int .i16 0, .int .u8 0, .int .i16 0] 28)).alloc (.cells #[.int .u8 0, .int .i16 0] 26)) := (by repeat (first | exact Below.refl _ _ | refine Below.drew ?_ | refine Below.alloc ?_ (by simp <;> omega) _ | refine Below.setCell ?_ (by simp <;> omega) _))
  have H1 := Lib.hid h1
  have H2 := Lib.hid h2
  have H3 := Lib.hid h3
  have H4 := Lib.hid h4
  clear h1 h2 h3 h4
  go_enter Tryd.func12, Tryd.ntmps12
  go_wp2_with fail
  refine (l01Ok_any bs HW.out _ _ H1.out).mono ?_
  rintro e w1 ⟨rfl, hb1⟩
  have HB1 : Hid (Below w.heap.size w w1) := H4.out.trans (hb1.mono H4.out.size)
  have K1 : Hid (CBlk w1 w.heap.size 28 bs) := H1.out.below hb1 H1.out.lt
  have K2 : Hid (CBlk w1 (w.heap.size + 1) 28 noB) := H2.out.below hb1 H2.out.lt
  have K3 : Hid (CBlk w1 (w.heap.size + 1 + 1) 26 [(0, 0)]) := H3.out.below hb1 H3.out.lt
  have K4 : Hid (CBlk (w1.setRow (w.heap.size + 1) (ccells noB).toArray) (w.heap.size + 1 + 1) 26 [(0, 0)]) := K3.out.rowOff (by omega) _
  clear hb1 H1 H2 H3 H4
  rw [hok]
  have h0 : 0 ≤ n := by omega
  have hx : decide (n ≤ 11) = false := by simp; omega
  go_wp2_with
    (first
    | (go_at_call 21; go_in)
    | (go_at_call 33; go_in)
    | (refine wpList_store_row rfl 28 (.tmp 4) (.tmp 15) rfl (w.heap.size + 1) (ccells noB).toArray rfl rfl 28 _ K2.out (size_of_crate Tryd.sizeCr _ rfl) rfl (ccells_one _) ?_)
    | (refine wpList_store_row rfl 26 (.tmp 5) (.tmp 16) rfl (w.heap.size + 1 + 1) (ccells [(0, 0)]).toArray rfl rfl 26 _ K4.out (size_of_bot Tryd.sizeBt _) rfl (ccells_one _) ?_))
  exact bodyPost_ret (v := takeV noB (0, 0) 2) (results_cct (v2 := .int .i64 2) rfl _ (by rfl) _ _ _ 28 26 _ _ (0, 0) (0, 0) _ _ rfl rfl ((CBlk.setRow (Y := noB) K2.out).rowOff (by omega) _) (K4.out.setRow (Y := [(0, 0)])) Tryd.underlying28 rfl (size_of_crate Tryd.sizeCr _ rfl) Tryd.underlying26 rfl (size_of_bot Tryd.sizeBt _)) rfl ⟨rfl, Below.setRow (Below.setRow HB1.out _ _ (by omega)) _ _ (by omega)⟩

set_option maxRecDepth 100000 in
set_option maxHeartbeats 1000000 in
theorem specTake_none (bs : List Bot) (hwf : WfC bs) (k : Nat) (hk : k < 12) (x y : Int) (hbk : bs[k]? = some (x, y)) (hok : okC bs = true) (hE : eB (x, y) = true) (w : World) : Calls Tryd.prog 12 #[.agg (ccells bs).toArray, .int .i64 (k : Int)] w fun e w' => e = .returned (takeV noB (0, 0) 6) ∧ Below w.heap.size w w' := by
  have HW := Lib.hid hwf
  clear hwf
  have h1 : CBlk (((w.alloc (.cells (ccells bs).toArray 28)).alloc (.cells #[.int .u8 0, .int .i16 0, .int .u8 0, .int .i16 0, .int .u8 0, .int .i16 0, .int .u8 0, .int .i16 0, .int .u8 0, .int .i16 0, .int .u8 0, .int .i16 0, .int .u8 0, .int .i16 0, .int .u8 0, .int .i16 0, .int .u8 0, .int .i16 0, .int .u8 0, .int .i16 0, .int .u8 0, .int .i16 0, .int .u8 0, .int .i16 0] 28)).alloc (.cells #[.int .u8 0, .int .i16 0] 26)) w.heap.size 28 bs := ((CBlk.new w 28 bs).alloc _).alloc _
  have h2 : CBlk (((w.alloc (.cells (ccells bs).toArray 28)).alloc (.cells #[.int .u8 0, .int .i16 0, .int .u8 0, .int .i16 0, .int .u8 0, .int .i16 0, .int .u8 0, .int .i16 0, .int .u8 0, .int .i16 0, .int .u8 0, .int .i16 0, .int .u8 0, .int .i16 0, .int .u8 0, .int .i16 0, .int .u8 0, .int .i16 0, .int .u8 0, .int .i16 0, .int .u8 0, .int .i16 0, .int .u8 0, .int .i16 0] 28)).alloc (.cells #[.int .u8 0, .int .i16 0] 26)) (w.heap.size + 1) 28 noB := by
    refine CBlk.alloc ?_ _
    exact CBlk.new' (by simp) rfl
  have h3 : CBlk (((w.alloc (.cells (ccells bs).toArray 28)).alloc (.cells #[.int .u8 0, .int .i16 0, .int .u8 0, .int .i16 0, .int .u8 0, .int .i16 0, .int .u8 0, .int .i16 0, .int .u8 0, .int .i16 0, .int .u8 0, .int .i16 0, .int .u8 0, .int .i16 0, .int .u8 0, .int .i16 0, .int .u8 0, .int .i16 0, .int .u8 0, .int .i16 0, .int .u8 0, .int .i16 0, .int .u8 0, .int .i16 0] 28)).alloc (.cells #[.int .u8 0, .int .i16 0] 26)) (w.heap.size + 1 + 1) 26 [(0, 0)] := CBlk.new' (by simp) rfl
  have h4 : Below w.heap.size w (((w.alloc (.cells (ccells bs).toArray 28)).alloc (.cells #[.int .u8 0, .int .i16 0, .int .u8 0, .int .i16 0, .int .u8 0, .int .i16 0, .int .u8 0, .int .i16 0, .int .u8 0, .int .i16 0, .int .u8 0, .int .i16 0, .int .u8 0, .int .i16 0, .int .u8 0, .int .i16 0, .int .u8 0, .int .i16 0, .int .u8 0, .int .i16 0, .int .u8 0, .int .i16 0, .int .u8 0, .int .i16 0] 28)).alloc (.cells #[.int .u8 0, .int .i16 0] 26)) := (by repeat (first | exact Below.refl _ _ | refine Below.drew ?_ | refine Below.alloc ?_ (by simp <;> omega) _ | refine Below.setCell ?_ (by simp <;> omega) _))
  have H1 := Lib.hid h1
  have H2 := Lib.hid h2
  have H3 := Lib.hid h3
  have H4 := Lib.hid h4
  clear h1 h2 h3 h4
  go_enter Tryd.func12, Tryd.ntmps12
  go_wp2_with fail
  refine (l01Ok_any bs HW.out _ _ H1.out).mono ?_
  rintro e w1 ⟨rfl, hb1⟩
  have HB1 : Hid (Below w.heap.size w w1) := H4.out.trans (hb1.mono H4.out.size)
  have K1 : Hid (CBlk w1 w.heap.size 28 bs) := H1.out.below hb1 H1.out.lt
  have K2 : Hid (CBlk w1 (w.heap.size + 1) 28 noB) := H2.out.below hb1 H2.out.lt
  have K3 : Hid (CBlk w1 (w.heap.size + 1 + 1) 26 [(0, 0)]) := H3.out.below hb1 H3.out.lt
  have K4 : Hid (CBlk (w1.setRow (w.heap.size + 1) (ccells noB).toArray) (w.heap.size + 1 + 1) 26 [(0, 0)]) := K3.out.rowOff (by omega) _
  clear hb1 H1 H2 H3 H4
  rw [hok]
  have Hk := Lib.hid hbk
  have e1 := K1.out.kind' hbk
  have e2 := K1.out.year' hbk
  have hl0 : (0 : Int) ≤ k := by omega
  have hl1 : (k : Int) ≤ 11 := by omega
  have hl2 : (k : Int) < 12 := by omega
  clear hbk
  go_wp2_with (first
    | (go_at_call 21; go_in)
    | (go_at_call 33; go_in))
  refine (l01Free_any _ _ _).mono ?_
  rintro e w2 ⟨rfl, hb2⟩
  have q1 : Below w1.heap.size w1 (w1.alloc (.cells #[.int .u8 x, .int .i16 y] 26)) := (Below.refl _ w1).alloc (Nat.le_refl _) _
  have q2 := q1.trans (hb2.mono (by simp))
  have HB2 : Hid (Below w.heap.size w w2) := HB1.out.trans (q2.mono HB1.out.size)
  have L1 : Hid (CBlk w2 w.heap.size 28 bs) := K1.out.below q2 K1.out.lt
  have L2 : Hid (CBlk w2 (w.heap.size + 1) 28 noB) := K2.out.below q2 K2.out.lt
  have L3 : Hid (CBlk w2 (w.heap.size + 1 + 1) 26 [(0, 0)]) := K3.out.below q2 K3.out.lt
  have L7 : Hid (CBlk w2 w1.heap.size 26 [(x, y)]) := (show CBlk (w1.alloc (.cells #[.int .u8 x, .int .i16 y] 26)) w1.heap.size 26 [(x, y)] from CBlk.new' rfl rfl).below hb2 (by simp)
  have L8 : Hid (w.heap.size + 1 + 1 < w1.heap.size) := K3.out.lt
  clear hb2 q1 q2 e1 e2 K1 K2 K3 K4
  rw [hE]
  have K2 := L2
  have K4 : Hid (CBlk (w2.setRow (w.heap.size + 1) (ccells noB).toArray) (w.heap.size + 1 + 1) 26 [(0, 0)]) := L3.out.rowOff (by omega) _
  have HBx := HB1
  clear HB1
  have HB1 := HB2
  go_wp2_with
    (first
    | (refine wpList_store_row rfl 28 (.tmp 4) (.tmp 22) rfl (w.heap.size + 1) (ccells noB).toArray rfl rfl 28 _ K2.out (size_of_crate Tryd.sizeCr _ rfl) rfl (ccells_one _) ?_)
    | (refine wpList_store_row rfl 26 (.tmp 5) (.tmp 23) rfl (w.heap.size + 1 + 1) (ccells [(0, 0)]).toArray rfl rfl 26 _ K4.out (size_of_bot Tryd.sizeBt _) rfl (ccells_one _) ?_))
  exact bodyPost_ret (v := takeV noB (0, 0) 6) (results_cct (v2 := .int .i64 6) rfl _ (by rfl) _ _ _ 28 26 _ _ (0, 0) (0, 0) _ _ rfl rfl ((CBlk.setRow (Y := noB) K2.out).rowOff (by omega) _) (K4.out.setRow (Y := [(0, 0)])) Tryd.underlying28 rfl (size_of_crate Tryd.sizeCr _ rfl) Tryd.underlying26 rfl (size_of_bot Tryd.sizeBt _)) rfl ⟨rfl, Below.setRow (Below.setRow HB1.out _ _ (by omega)) _ _ (by omega)⟩
end Go.Proofs.YtjiihdljchaeiadDoor
