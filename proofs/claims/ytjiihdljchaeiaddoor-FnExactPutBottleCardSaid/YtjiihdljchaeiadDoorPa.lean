/-
  The contracts of the model's PutBottle. No condition but the crate's length and that its numbers fit their kinds.
-/
import Derived.Test.YtjiihdljchaeiadDoorW
namespace Go.Proofs.YtjiihdljchaeiadDoor
open Go.ChangeShapes Go.WideShapes Go.ChangeAt Go.RowKit Go.Deep
theorem results_ct2 {P : Program} {fn : Func} {p q : Tmp} {ty : TypeId} {v2 : Value} (h : fn.results = #[.cell p ty, .tmp q]) (tmps : Array Value) (hq : tmps.getD q undef = v2) (w : World) (g : Nat) (t : TypeId) (cs : Array Value) (fr : Nat × Nat) (d : TypeDesc)
    (hp : tmps.getD p undef = .pointer (some ⟨g, 0, none⟩)) (hg : w.heap[g]? = some (.cells cs t fr))
    (hu : P.underlying ty = some d) (hd : (match d with | .struct _ | .array _ _ => true | _ => false) = true) (hi : (P.info? ty).map (·.size) = some cs.size) :
    (results fn tmps).run P w = .ok (.tuple #[.agg cs, v2]) w := by
  subst hq
  have hp' : tmps[p]?.getD undef = .pointer (some ⟨g, 0, none⟩) := by simpa using hp
  simp [results, h, hp', asAddr, run_loadVar_row w g t ty cs fr d hg hu hd hi]
/-- What PutBottle answers. -/
def putV (X : List Bot) (c : Int) : Value := .tuple #[.agg (ccells X).toArray, .int .i64 c]

set_option maxRecDepth 100000 in
set_option maxHeartbeats 1000000 in
theorem specPut_bad0 (bs : List Bot) (hwf : WfC bs) (p q : Int) (hp : 0 ≤ p ∧ p ≤ 255) (hq : -32768 ≤ q ∧ q ≤ 32767) (n : Int) (hok : okC bs = false) (w : World) : Calls Tryd.prog 7 #[.agg (ccells bs).toArray, .int .i64 n, .agg #[.int .u8 p, .int .i16 q]] w fun e w' => e = .returned (putV noB 1) ∧ Below w.heap.size w w' := by
  have HW := Lib.hid hwf
  have HP := Lib.hid hp
  have HQ := Lib.hid hq
  clear hwf hp hq
  have h1 : CBlk (((w.alloc (.cells (ccells bs).toArray 28)).alloc (.cells #[.int .u8 p, .int .i16 q] 26)).alloc (.cells #[.int .u8 0, .int .i16 0, .int .u8 0, .int .i16 0, .int .u8 0, .int .i16 0, .int .u8 0, .int .i16 0, .int .u8 0, .int .i16 0, .int .u8 0, .int .i16 0, .int .u8 0, .int .i16 0, .int .u8 0, .int .i16 0, .int .u8 0, .int .i16 0, .int .u8 0, .int .i16 0, .int .u8 0, .int .i16 0, .int .u8 0, .int .i16 0] 28)) w.heap.size 28 bs := ((CBlk.new w 28 bs).alloc _).alloc _
  have h3 : CBlk (((w.alloc (.cells (ccells bs).toArray 28)).alloc (.cells #[.int .u8 p, .int .i16 q] 26)).alloc (.cells #[.int .u8 0, .int .i16 0, .int .u8 0, .int .i16 0, .int .u8 0, .int .i16 0, .int .u8 0, .int .i16 0, .int .u8 0, .int .i16 0, .int .u8 0, .int .i16 0, .int .u8 0, .int .i16 0, .int .u8 0, .int .i16 0, .int .u8 0, .int .i16 0, .int .u8 0, .int .i16 0, .int .u8 0, .int .i16 0, .int .u8 0, .int .i16 0] 28)) (w.heap.size + 1) 26 [(p, q)] := by
    refine CBlk.alloc ?_ _
    exact CBlk.new' (by simp) rfl
  have h2 : CBlk (((w.alloc (.cells (ccells bs).toArray 28)).alloc (.cells #[.int .u8 p, .int .i16 q] 26)).alloc (.cells #[.int .u8 0, .int .i16 0, .int .u8 0, .int .i16 0, .int .u8 0, .int .i16 0, .int .u8 0, .int .i16 0, .int .u8 0, .int .i16 0, .int .u8 0, .int .i16 0, .int .u8 0, .int .i16 0, .int .u8 0, .int .i16 0, .int .u8 0, .int .i16 0, .int .u8 0, .int .i16 0, .int .u8 0, .int .i16 0, .int .u8 0, .int .i16 0] 28)) (w.heap.size + 1 + 1) 28 noB := CBlk.new' (by simp) rfl
  have h4 : Below w.heap.size w (((w.alloc (.cells (ccells bs).toArray 28)).alloc (.cells #[.int .u8 p, .int .i16 q] 26)).alloc (.cells #[.int .u8 0, .int .i16 0, .int .u8 0, .int .i16 0, .int .u8 0, .int .i16 0, .int .u8 0, .int .i16 0, .int .u8 0, .int .i16 0, .int .u8 0, .int .i16 0, .int .u8 0, .int .i16 0, .int .u8 0, .int .i16 0, .int .u8 0, .int .i16 0, .int .u8 0, .int .i16 0, .int .u8 0, .int .i16 0, .int .u8 0, .int .i16 0] 28)) := (by repeat (first | exact Below.refl _ _ | refine Below.drew ?_ | refine Below.alloc ?_ (by simp <;> omega) _ | refine Below.setCell ?_ (by simp <;> omega) _))
  have H1 := Lib.hid h1
  have H2 := Lib.hid h2
  have H3 := Lib.hid h3
  have H4 := Lib.hid h4
  clear h1 h2 h3 h4
  go_enter Tryd.func7, Tryd.ntmps7
  go_wp2_with fail
  refine (l01Ok_any bs HW.out _ _ H1.out).mono ?_
  rintro e w1 ⟨rfl, hb1⟩
  have HB1 : Hid (Below w.heap.size w w1) := H4.out.trans (hb1.mono H4.out.size)
  have K1 : Hid (CBlk w1 w.heap.size 28 bs) := H1.out.below hb1 H1.out.lt
  have K2 : Hid (CBlk w1 (w.heap.size + 1 + 1) 28 noB) := H2.out.below hb1 H2.out.lt
  have K3 : Hid (CBlk w1 (w.heap.size + 1) 26 [(p, q)]) := H3.out.below hb1 H3.out.lt
  clear hb1 H1 H2 H3 H4
  rw [hok]
  go_wp2_with (first
    | (refine wpList_store_row rfl 28 (.tmp 6) (.tmp 15) rfl (w.heap.size + 1 + 1) (ccells noB).toArray rfl rfl 28 _ K2.out (size_of_crate Tryd.sizeCr _ rfl) rfl (ccells_one _) ?_))
  exact bodyPost_ret (v := putV noB 1) (results_ct2 (v2 := .int .i64 1) rfl _ (by rfl) _ _ 28 _ (0, 0) _ rfl (CBlk.setRow (Y := noB) K2.out) Tryd.underlying28 rfl (size_of_crate Tryd.sizeCr _ rfl)) rfl ⟨rfl, Below.setRow HB1.out _ _ (by omega)⟩

set_option maxRecDepth 100000 in
set_option maxHeartbeats 1000000 in
theorem specPut_bad1 (bs : List Bot) (hwf : WfC bs) (p q : Int) (hp : 0 ≤ p ∧ p ≤ 255) (hq : -32768 ≤ q ∧ q ≤ 32767) (n : Int) (hok : okC bs = true) (hv : vB (p, q) = false) (w : World) : Calls Tryd.prog 7 #[.agg (ccells bs).toArray, .int .i64 n, .agg #[.int .u8 p, .int .i16 q]] w fun e w' => e = .returned (putV noB 1) ∧ Below w.heap.size w w' := by
  have HW := Lib.hid hwf
  have HP := Lib.hid hp
  have HQ := Lib.hid hq
  clear hwf hp hq
  have h1 : CBlk (((w.alloc (.cells (ccells bs).toArray 28)).alloc (.cells #[.int .u8 p, .int .i16 q] 26)).alloc (.cells #[.int .u8 0, .int .i16 0, .int .u8 0, .int .i16 0, .int .u8 0, .int .i16 0, .int .u8 0, .int .i16 0, .int .u8 0, .int .i16 0, .int .u8 0, .int .i16 0, .int .u8 0, .int .i16 0, .int .u8 0, .int .i16 0, .int .u8 0, .int .i16 0, .int .u8 0, .int .i16 0, .int .u8 0, .int .i16 0, .int .u8 0, .int .i16 0] 28)) w.heap.size 28 bs := ((CBlk.new w 28 bs).alloc _).alloc _
  have h3 : CBlk (((w.alloc (.cells (ccells bs).toArray 28)).alloc (.cells #[.int .u8 p, .int .i16 q] 26)).alloc (.cells #[.int .u8 0, .int .i16 0, .int .u8 0, .int .i16 0, .int .u8 0, .int .i16 0, .int .u8 0, .int .i16 0, .int .u8 0, .int .i16 0, .int .u8 0, .int .i16 0, .int .u8 0, .int .i16 0, .int .u8 0, .int .i16 0, .int .u8 0, .int .i16 0, .int .u8 0, .int .i16 0, .int .u8 0, .int .i16 0, .int .u8 0, .int .i16 0] 28)) (w.heap.size + 1) 26 [(p, q)] := by
    refine CBlk.alloc ?_ _
    exact CBlk.new' (by simp) rfl
  have h2 : CBlk (((w.alloc (.cells (ccells bs).toArray 28)).alloc (.cells #[.int .u8 p, .int .i16 q] 26)).alloc (.cells #[.int .u8 0, .int .i16 0, .int .u8 0, .int .i16 0, .int .u8 0, .int .i16 0, .int .u8 0, .int .i16 0, .int .u8 0, .int .i16 0, .int .u8 0, .int .i16 0, .int .u8 0, .int .i16 0, .int .u8 0, .int .i16 0, .int .u8 0, .int .i16 0, .int .u8 0, .int .i16 0, .int .u8 0, .int .i16 0, .int .u8 0, .int .i16 0] 28)) (w.heap.size + 1 + 1) 28 noB := CBlk.new' (by simp) rfl
  have h4 : Below w.heap.size w (((w.alloc (.cells (ccells bs).toArray 28)).alloc (.cells #[.int .u8 p, .int .i16 q] 26)).alloc (.cells #[.int .u8 0, .int .i16 0, .int .u8 0, .int .i16 0, .int .u8 0, .int .i16 0, .int .u8 0, .int .i16 0, .int .u8 0, .int .i16 0, .int .u8 0, .int .i16 0, .int .u8 0, .int .i16 0, .int .u8 0, .int .i16 0, .int .u8 0, .int .i16 0, .int .u8 0, .int .i16 0, .int .u8 0, .int .i16 0, .int .u8 0, .int .i16 0] 28)) := (by repeat (first | exact Below.refl _ _ | refine Below.drew ?_ | refine Below.alloc ?_ (by simp <;> omega) _ | refine Below.setCell ?_ (by simp <;> omega) _))
  have H1 := Lib.hid h1
  have H2 := Lib.hid h2
  have H3 := Lib.hid h3
  have H4 := Lib.hid h4
  clear h1 h2 h3 h4
  go_enter Tryd.func7, Tryd.ntmps7
  go_wp2_with fail
  refine (l01Ok_any bs HW.out _ _ H1.out).mono ?_
  rintro e w1 ⟨rfl, hb1⟩
  have HB1 : Hid (Below w.heap.size w w1) := H4.out.trans (hb1.mono H4.out.size)
  have K1 : Hid (CBlk w1 w.heap.size 28 bs) := H1.out.below hb1 H1.out.lt
  have K2 : Hid (CBlk w1 (w.heap.size + 1 + 1) 28 noB) := H2.out.below hb1 H2.out.lt
  have K3 : Hid (CBlk w1 (w.heap.size + 1) 26 [(p, q)]) := H3.out.below hb1 H3.out.lt
  clear hb1 H1 H2 H3 H4
  rw [hok]
  have b0 : w1.cell? ⟨w.heap.size + 1, 0, none⟩ = some (.int .u8 p) := K3.out.cell 0
  have b1 : w1.cell? ⟨w.heap.size + 1, 1, none⟩ = some (.int .i16 q) := K3.out.cell 1
  go_wp2_with fail
  refine (l01Bottle_any p q HP.out HQ.out _).mono ?_
  rintro e w2 ⟨rfl, hb2⟩
  have HB2 : Hid (Below w.heap.size w w2) := HB1.out.trans (hb2.mono HB1.out.size)
  have L1 : Hid (CBlk w2 w.heap.size 28 bs) := K1.out.below hb2 K1.out.lt
  have L2 : Hid (CBlk w2 (w.heap.size + 1 + 1) 28 noB) := K2.out.below hb2 K2.out.lt
  have L3 : Hid (CBlk w2 (w.heap.size + 1) 26 [(p, q)]) := K3.out.below hb2 K3.out.lt
  clear hb2 b0 b1 K1 K2 K3 HB1
  have K1 := L1
  have K2 := L2
  have K3 := L3
  have HB1 := HB2
  clear L1 L2 L3 HB2
  rw [hv]
  go_wp2_with (first
    | (refine wpList_store_row rfl 28 (.tmp 6) (.tmp 15) rfl (w.heap.size + 1 + 1) (ccells noB).toArray rfl rfl 28 _ K2.out (size_of_crate Tryd.sizeCr _ rfl) rfl (ccells_one _) ?_))
  exact bodyPost_ret (v := putV noB 1) (results_ct2 (v2 := .int .i64 1) rfl _ (by rfl) _ _ 28 _ (0, 0) _ rfl (CBlk.setRow (Y := noB) K2.out) Tryd.underlying28 rfl (size_of_crate Tryd.sizeCr _ rfl)) rfl ⟨rfl, Below.setRow HB1.out _ _ (by omega)⟩

set_option maxRecDepth 100000 in
set_option maxHeartbeats 1000000 in
theorem specPut_range0 (bs : List Bot) (hwf : WfC bs) (p q : Int) (hp : 0 ≤ p ∧ p ≤ 255) (hq : -32768 ≤ q ∧ q ≤ 32767) (n : Int) (hok : okC bs = true) (hv : vB (p, q) = true) (hn : n < 0) (w : World) : Calls Tryd.prog 7 #[.agg (ccells bs).toArray, .int .i64 n, .agg #[.int .u8 p, .int .i16 q]] w fun e w' => e = .returned (putV noB 2) ∧ Below w.heap.size w w' := by
  have HW := Lib.hid hwf
  have HP := Lib.hid hp
  have HQ := Lib.hid hq
  clear hwf hp hq
  have h1 : CBlk (((w.alloc (.cells (ccells bs).toArray 28)).alloc (.cells #[.int .u8 p, .int .i16 q] 26)).alloc (.cells #[.int .u8 0, .int .i16 0, .int .u8 0, .int .i16 0, .int .u8 0, .int .i16 0, .int .u8 0, .int .i16 0, .int .u8 0, .int .i16 0, .int .u8 0, .int .i16 0, .int .u8 0, .int .i16 0, .int .u8 0, .int .i16 0, .int .u8 0, .int .i16 0, .int .u8 0, .int .i16 0, .int .u8 0, .int .i16 0, .int .u8 0, .int .i16 0] 28)) w.heap.size 28 bs := ((CBlk.new w 28 bs).alloc _).alloc _
  have h3 : CBlk (((w.alloc (.cells (ccells bs).toArray 28)).alloc (.cells #[.int .u8 p, .int .i16 q] 26)).alloc (.cells #[.int .u8 0, .int .i16 0, .int .u8 0, .int .i16 0, .int .u8 0, .int .i16 0, .int .u8 0, .int .i16 0, .int .u8 0, .int .i16 0, .int .u8 0, .int .i16 0, .int .u8 0, .int .i16 0, .int .u8 0, .int .i16 0, .int .u8 0, .int .i16 0, .int .u8 0, .int .i16 0, .int .u8 0, .int .i16 0, .int .u8 0, .int .i16 0] 28)) (w.heap.size + 1) 26 [(p, q)] := by
    refine CBlk.alloc ?_ _
    exact CBlk.new' (by simp) rfl
  have h2 : CBlk (((w.alloc (.cells (ccells bs).toArray 28)).alloc (.cells #[.int .u8 p, .int .i16 q] 26)).alloc (.cells #[.int .u8 0, .int .i16 0, .int .u8 0, .int .i16 0, .int .u8 0, .int .i16 0, .int .u8 0, .int .i16 0, .int .u8 0, .int .i16 0, .int .u8 0, .int .i16 0, .int .u8 0, .int .i16 0, .int .u8 0, .int .i16 0, .int .u8 0, .int .i16 0, .int .u8 0, .int .i16 0, .int .u8 0, .int .i16 0, .int .u8 0, .int .i16 0] 28)) (w.heap.size + 1 + 1) 28 noB := CBlk.new' (by simp) rfl
  have h4 : Below w.heap.size w (((w.alloc (.cells (ccells bs).toArray 28)).alloc (.cells #[.int .u8 p, .int .i16 q] 26)).alloc (.cells #[.int .u8 0, .int .i16 0, .int .u8 0, .int .i16 0, .int .u8 0, .int .i16 0, .int .u8 0, .int .i16 0, .int .u8 0, .int .i16 0, .int .u8 0, .int .i16 0, .int .u8 0, .int .i16 0, .int .u8 0, .int .i16 0, .int .u8 0, .int .i16 0, .int .u8 0, .int .i16 0, .int .u8 0, .int .i16 0, .int .u8 0, .int .i16 0] 28)) := (by repeat (first | exact Below.refl _ _ | refine Below.drew ?_ | refine Below.alloc ?_ (by simp <;> omega) _ | refine Below.setCell ?_ (by simp <;> omega) _))
  have H1 := Lib.hid h1
  have H2 := Lib.hid h2
  have H3 := Lib.hid h3
  have H4 := Lib.hid h4
  clear h1 h2 h3 h4
  go_enter Tryd.func7, Tryd.ntmps7
  go_wp2_with fail
  refine (l01Ok_any bs HW.out _ _ H1.out).mono ?_
  rintro e w1 ⟨rfl, hb1⟩
  have HB1 : Hid (Below w.heap.size w w1) := H4.out.trans (hb1.mono H4.out.size)
  have K1 : Hid (CBlk w1 w.heap.size 28 bs) := H1.out.below hb1 H1.out.lt
  have K2 : Hid (CBlk w1 (w.heap.size + 1 + 1) 28 noB) := H2.out.below hb1 H2.out.lt
  have K3 : Hid (CBlk w1 (w.heap.size + 1) 26 [(p, q)]) := H3.out.below hb1 H3.out.lt
  clear hb1 H1 H2 H3 H4
  rw [hok]
  have b0 : w1.cell? ⟨w.heap.size + 1, 0, none⟩ = some (.int .u8 p) := K3.out.cell 0
  have b1 : w1.cell? ⟨w.heap.size + 1, 1, none⟩ = some (.int .i16 q) := K3.out.cell 1
  go_wp2_with fail
  refine (l01Bottle_any p q HP.out HQ.out _).mono ?_
  rintro e w2 ⟨rfl, hb2⟩
  have HB2 : Hid (Below w.heap.size w w2) := HB1.out.trans (hb2.mono HB1.out.size)
  have L1 : Hid (CBlk w2 w.heap.size 28 bs) := K1.out.below hb2 K1.out.lt
  have L2 : Hid (CBlk w2 (w.heap.size + 1 + 1) 28 noB) := K2.out.below hb2 K2.out.lt
  have L3 : Hid (CBlk w2 (w.heap.size + 1) 26 [(p, q)]) := K3.out.below hb2 K3.out.lt
  clear hb2 b0 b1 K1 K2 K3 HB1
  have K1 := L1
  have K2 := L2
  have K3 := L3
  have HB1 := HB2
  clear L1 L2 L3 HB2
  rw [hv]
  have hx := hn
  go_wp2_with (first
    | (go_at_call 21; go_in)
    | (go_at_call 33; go_in)
    | (refine wpList_store_row rfl 28 (.tmp 6) (.tmp 19) rfl (w.heap.size + 1 + 1) (ccells noB).toArray rfl rfl 28 _ K2.out (size_of_crate Tryd.sizeCr _ rfl) rfl (ccells_one _) ?_))
  exact bodyPost_ret (v := putV noB 2) (results_ct2 (v2 := .int .i64 2) rfl _ (by rfl) _ _ 28 _ (0, 0) _ rfl (CBlk.setRow (Y := noB) K2.out) Tryd.underlying28 rfl (size_of_crate Tryd.sizeCr _ rfl)) rfl ⟨rfl, Below.setRow HB1.out _ _ (by omega)⟩

set_option maxRecDepth 100000 in
set_option maxHeartbeats 1000000 in
theorem specPut_range1 (bs : List Bot) (hwf : WfC bs) (p q : Int) (hp : 0 ≤ p ∧ p ≤ 255) (hq : -32768 ≤ q ∧ q ≤ 32767) (n : Int) (hok : okC bs = true) (hv : vB (p, q) = true) (hn : 11 < n) (w : World) : Calls Tryd.prog 7 #[.agg (ccells bs).toArray, .int .i64 n, .agg #[.int .u8 p, .int .i16 q]] w fun e w' => e = .returned (putV noB 2) ∧ Below w.heap.size w w' := by
  have HW := Lib.hid hwf
  have HP := Lib.hid hp
  have HQ := Lib.hid hq
  clear hwf hp hq
  have h1 : CBlk (((w.alloc (.cells (ccells bs).toArray 28)).alloc (.cells #[.int .u8 p, .int .i16 q] 26)).alloc (.cells #[.int .u8 0, .int .i16 0, .int .u8 0, .int .i16 0, .int .u8 0, .int .i16 0, .int .u8 0, .int .i16 0, .int .u8 0, .int .i16 0, .int .u8 0, .int .i16 0, .int .u8 0, .int .i16 0, .int .u8 0, .int .i16 0, .int .u8 0, .int .i16 0, .int .u8 0, .int .i16 0, .int .u8 0, .int .i16 0, .int .u8 0, .int .i16 0] 28)) w.heap.size 28 bs := ((CBlk.new w 28 bs).alloc _).alloc _
  have h3 : CBlk (((w.alloc (.cells (ccells bs).toArray 28)).alloc (.cells #[.int .u8 p, .int .i16 q] 26)).alloc (.cells #[.int .u8 0, .int .i16 0, .int .u8 0, .int .i16 0, .int .u8 0, .int .i16 0, .int .u8 0, .int .i16 0, .int .u8 0, .int .i16 0, .int .u8 0, .int .i16 0, .int .u8 0, .int .i16 0, .int .u8 0, .int .i16 0, .int .u8 0, .int .i16 0, .int .u8 0, .int .i16 0, .int .u8 0, .int .i16 0, .int .u8 0, .int .i16 0] 28)) (w.heap.size + 1) 26 [(p, q)] := by
    refine CBlk.alloc ?_ _
    exact CBlk.new' (by simp) rfl
  have h2 : CBlk (((w.alloc (.cells (ccells bs).toArray 28)).alloc (.cells #[.int .u8 p, .int .i16 q] 26)).alloc (.cells #[.int .u8 0, .int .i16 0, .int .u8 0, .int .i16 0, .int .u8 0, .int .i16 0, .int .u8 0, .int .i16 0, .int .u8 0, .int .i16 0, .int .u8 0, .int .i16 0, .int .u8 0, .int .i16 0, .int .u8 0, .int .i16 0, .int .u8 0, .int .i16 0, .int .u8 0, .int .i16 0, .int .u8 0, .int .i16 0, .int .u8 0, .int .i16 0] 28)) (w.heap.size + 1 + 1) 28 noB := CBlk.new' (by simp) rfl
  have h4 : Below w.heap.size w (((w.alloc (.cells (ccells bs).toArray 28)).alloc (.cells #[.int .u8 p, .int .i16 q] 26)).alloc (.cells #[.int .u8 0, .int .i16 0, .int .u8 0, .int .i16 0, .int .u8 0, .int .i16 0, .int .u8 0, .int .i16 0, .int .u8 0, .int .i16 0, .int .u8 0, .int .i16 0, .int .u8 0, .int .i16 0, .int .u8 0, .int .i16 0, .int .u8 0, .int .i16 0, .int .u8 0, .int .i16 0, .int .u8 0, .int .i16 0, .int .u8 0, .int .i16 0] 28)) := (by repeat (first | exact Below.refl _ _ | refine Below.drew ?_ | refine Below.alloc ?_ (by simp <;> omega) _ | refine Below.setCell ?_ (by simp <;> omega) _))
  have H1 := Lib.hid h1
  have H2 := Lib.hid h2
  have H3 := Lib.hid h3
  have H4 := Lib.hid h4
  clear h1 h2 h3 h4
  go_enter Tryd.func7, Tryd.ntmps7
  go_wp2_with fail
  refine (l01Ok_any bs HW.out _ _ H1.out).mono ?_
  rintro e w1 ⟨rfl, hb1⟩
  have HB1 : Hid (Below w.heap.size w w1) := H4.out.trans (hb1.mono H4.out.size)
  have K1 : Hid (CBlk w1 w.heap.size 28 bs) := H1.out.below hb1 H1.out.lt
  have K2 : Hid (CBlk w1 (w.heap.size + 1 + 1) 28 noB) := H2.out.below hb1 H2.out.lt
  have K3 : Hid (CBlk w1 (w.heap.size + 1) 26 [(p, q)]) := H3.out.below hb1 H3.out.lt
  clear hb1 H1 H2 H3 H4
  rw [hok]
  have b0 : w1.cell? ⟨w.heap.size + 1, 0, none⟩ = some (.int .u8 p) := K3.out.cell 0
  have b1 : w1.cell? ⟨w.heap.size + 1, 1, none⟩ = some (.int .i16 q) := K3.out.cell 1
  go_wp2_with fail
  refine (l01Bottle_any p q HP.out HQ.out _).mono ?_
  rintro e w2 ⟨rfl, hb2⟩
  have HB2 : Hid (Below w.heap.size w w2) := HB1.out.trans (hb2.mono HB1.out.size)
  have L1 : Hid (CBlk w2 w.heap.size 28 bs) := K1.out.below hb2 K1.out.lt
  have L2 : Hid (CBlk w2 (w.heap.size + 1 + 1) 28 noB) := K2.out.below hb2 K2.out.lt
  have L3 : Hid (CBlk w2 (w.heap.size + 1) 26 [(p, q)]) := K3.out.below hb2 K3.out.lt
  clear hb2 b0 b1 K1 K2 K3 HB1
  have K1 := L1
  have K2 := L2
  have K3 := L3
  have HB1 := HB2
  clear L1 L2 L3 HB2
  rw [hv]
  have h0 : 0 ≤ n := by omega
  have hx : decide (n ≤ 11) = false := by simp; omega
  go_wp2_with (first
    | (go_at_call 21; go_in)
    | (go_at_call 33; go_in)
    | (refine wpList_store_row rfl 28 (.tmp 6) (.tmp 19) rfl (w.heap.size + 1 + 1) (ccells noB).toArray rfl rfl 28 _ K2.out (size_of_crate Tryd.sizeCr _ rfl) rfl (ccells_one _) ?_))
  exact bodyPost_ret (v := putV noB 2) (results_ct2 (v2 := .int .i64 2) rfl _ (by rfl) _ _ 28 _ (0, 0) _ rfl (CBlk.setRow (Y := noB) K2.out) Tryd.underlying28 rfl (size_of_crate Tryd.sizeCr _ rfl)) rfl ⟨rfl, Below.setRow HB1.out _ _ (by omega)⟩

set_option maxRecDepth 100000 in
set_option maxHeartbeats 1000000 in
theorem specPut_state (bs : List Bot) (hwf : WfC bs) (p q : Int) (hp : 0 ≤ p ∧ p ≤ 255) (hq : -32768 ≤ q ∧ q ≤ 32767) (k : Nat) (hk : k < 12) (x y : Int) (hbk : bs[k]? = some (x, y)) (hok : okC bs = true) (hv : vB (p, q) = true) (hE : eB (x, y) = false) (w : World) : Calls Tryd.prog 7 #[.agg (ccells bs).toArray, .int .i64 (k : Int), .agg #[.int .u8 p, .int .i16 q]] w fun e w' => e = .returned (putV noB 4) ∧ Below w.heap.size w w' := by
  have HW := Lib.hid hwf
  have HP := Lib.hid hp
  have HQ := Lib.hid hq
  clear hwf hp hq
  have h1 : CBlk (((w.alloc (.cells (ccells bs).toArray 28)).alloc (.cells #[.int .u8 p, .int .i16 q] 26)).alloc (.cells #[.int .u8 0, .int .i16 0, .int .u8 0, .int .i16 0, .int .u8 0, .int .i16 0, .int .u8 0, .int .i16 0, .int .u8 0, .int .i16 0, .int .u8 0, .int .i16 0, .int .u8 0, .int .i16 0, .int .u8 0, .int .i16 0, .int .u8 0, .int .i16 0, .int .u8 0, .int .i16 0, .int .u8 0, .int .i16 0, .int .u8 0, .int .i16 0] 28)) w.heap.size 28 bs := ((CBlk.new w 28 bs).alloc _).alloc _
  have h3 : CBlk (((w.alloc (.cells (ccells bs).toArray 28)).alloc (.cells #[.int .u8 p, .int .i16 q] 26)).alloc (.cells #[.int .u8 0, .int .i16 0, .int .u8 0, .int .i16 0, .int .u8 0, .int .i16 0, .int .u8 0, .int .i16 0, .int .u8 0, .int .i16 0, .int .u8 0, .int .i16 0, .int .u8 0, .int .i16 0, .int .u8 0, .int .i16 0, .int .u8 0, .int .i16 0, .int .u8 0, .int .i16 0, .int .u8 0, .int .i16 0, .int .u8 0, .int .i16 0] 28)) (w.heap.size + 1) 26 [(p, q)] := by
    refine CBlk.alloc ?_ _
    exact CBlk.new' (by simp) rfl
  have h2 : CBlk (((w.alloc (.cells (ccells bs).toArray 28)).alloc (.cells #[.int .u8 p, .int .i16 q] 26)).alloc (.cells #[.int .u8 0, .int .i16 0, .int .u8 0, .int .i16 0, .int .u8 0, .int .i16 0, .int .u8 0, .int .i16 0, .int .u8 0, .int .i16 0, .int .u8 0, .int .i16 0, .int .u8 0, .int .i16 0, .int .u8 0, .int .i16 0, .int .u8 0, .int .i16 0, .int .u8 0, .int .i16 0, .int .u8 0, .int .i16 0, .int .u8 0, .int .i16 0] 28)) (w.heap.size + 1 + 1) 28 noB := CBlk.new' (by simp) rfl
  have h4 : Below w.heap.size w (((w.alloc (.cells (ccells bs).toArray 28)).alloc (.cells #[.int .u8 p, .int .i16 q] 26)).alloc (.cells #[.int .u8 0, .int .i16 0, .int .u8 0, .int .i16 0, .int .u8 0, .int .i16 0, .int .u8 0, .int .i16 0, .int .u8 0, .int .i16 0, .int .u8 0, .int .i16 0, .int .u8 0, .int .i16 0, .int .u8 0, .int .i16 0, .int .u8 0, .int .i16 0, .int .u8 0, .int .i16 0, .int .u8 0, .int .i16 0, .int .u8 0, .int .i16 0] 28)) := (by repeat (first | exact Below.refl _ _ | refine Below.drew ?_ | refine Below.alloc ?_ (by simp <;> omega) _ | refine Below.setCell ?_ (by simp <;> omega) _))
  have H1 := Lib.hid h1
  have H2 := Lib.hid h2
  have H3 := Lib.hid h3
  have H4 := Lib.hid h4
  clear h1 h2 h3 h4
  go_enter Tryd.func7, Tryd.ntmps7
  go_wp2_with fail
  refine (l01Ok_any bs HW.out _ _ H1.out).mono ?_
  rintro e w1 ⟨rfl, hb1⟩
  have HB1 : Hid (Below w.heap.size w w1) := H4.out.trans (hb1.mono H4.out.size)
  have K1 : Hid (CBlk w1 w.heap.size 28 bs) := H1.out.below hb1 H1.out.lt
  have K2 : Hid (CBlk w1 (w.heap.size + 1 + 1) 28 noB) := H2.out.below hb1 H2.out.lt
  have K3 : Hid (CBlk w1 (w.heap.size + 1) 26 [(p, q)]) := H3.out.below hb1 H3.out.lt
  clear hb1 H1 H2 H3 H4
  rw [hok]
  have b0 : w1.cell? ⟨w.heap.size + 1, 0, none⟩ = some (.int .u8 p) := K3.out.cell 0
  have b1 : w1.cell? ⟨w.heap.size + 1, 1, none⟩ = some (.int .i16 q) := K3.out.cell 1
  go_wp2_with fail
  refine (l01Bottle_any p q HP.out HQ.out _).mono ?_
  rintro e w2 ⟨rfl, hb2⟩
  have HB2 : Hid (Below w.heap.size w w2) := HB1.out.trans (hb2.mono HB1.out.size)
  have L1 : Hid (CBlk w2 w.heap.size 28 bs) := K1.out.below hb2 K1.out.lt
  have L2 : Hid (CBlk w2 (w.heap.size + 1 + 1) 28 noB) := K2.out.below hb2 K2.out.lt
  have L3 : Hid (CBlk w2 (w.heap.size + 1) 26 [(p, q)]) := K3.out.below hb2 K3.out.lt
  clear hb2 b0 b1 K1 K2 K3 HB1
  have K1 := L1
  have K2 := L2
  have K3 := L3
  have HB1 := HB2
  clear L1 L2 L3 HB2
  rw [hv]
  have Hk := Lib.hid hbk
  have e1 := K1.out.kind' hbk
  have e2 := K1.out.year' hbk
  have hl0 : (0 : Int) ≤ k := by omega
  have hl1 : (k : Int) ≤ 11 := by omega
  have hl2 : (k : Int) < 12 := by omega
  clear hbk
  go_wp2_with (first
    | (go_at_call 21; go_in)
    | (go_at_call 33; go_in))
  refine (l01Free_any _ _ _).mono ?_
  rintro e w2 ⟨rfl, hb2⟩
  have HB2 : Hid (Below w.heap.size w w2) := HB1.out.trans (hb2.mono HB1.out.size)
  have L1 : Hid (CBlk w2 w.heap.size 28 bs) := K1.out.below hb2 K1.out.lt
  have L2 : Hid (CBlk w2 (w.heap.size + 1 + 1) 28 noB) := K2.out.below hb2 K2.out.lt
  have L3 : Hid (CBlk w2 (w.heap.size + 1) 26 [(p, q)]) := K3.out.below hb2 K3.out.lt
  clear hb2 e1 e2 K1 K2 K3 HB1
  rw [hE]
  have K2 := L2
  have HB1 := HB2
  go_wp2_with (first
    | (refine wpList_store_row rfl 28 (.tmp 6) (.tmp 25) rfl (w.heap.size + 1 + 1) (ccells noB).toArray rfl rfl 28 _ K2.out (size_of_crate Tryd.sizeCr _ rfl) rfl (ccells_one _) ?_))
  exact bodyPost_ret (v := putV noB 4) (results_ct2 (v2 := .int .i64 4) rfl _ (by rfl) _ _ 28 _ (0, 0) _ rfl (CBlk.setRow (Y := noB) K2.out) Tryd.underlying28 rfl (size_of_crate Tryd.sizeCr _ rfl)) rfl ⟨rfl, Below.setRow HB1.out _ _ (by omega)⟩

set_option maxRecDepth 100000 in
set_option maxHeartbeats 1000000 in
theorem specPut_some (bs : List Bot) (hwf : WfC bs) (p q : Int) (hp : 0 ≤ p ∧ p ≤ 255) (hq : -32768 ≤ q ∧ q ≤ 32767) (k : Nat) (hk : k < 12) (x y : Int) (hbk : bs[k]? = some (x, y)) (hok : okC bs = true) (hv : vB (p, q) = true) (hE : eB (x, y) = true) (w : World) : Calls Tryd.prog 7 #[.agg (ccells bs).toArray, .int .i64 (k : Int), .agg #[.int .u8 p, .int .i16 q]] w fun e w' => e = .returned (putV (bs.set k (p, q)) 0) ∧ Below w.heap.size w w' := by
  have HW := Lib.hid hwf
  have HP := Lib.hid hp
  have HQ := Lib.hid hq
  clear hwf hp hq
  have h1 : CBlk (((w.alloc (.cells (ccells bs).toArray 28)).alloc (.cells #[.int .u8 p, .int .i16 q] 26)).alloc (.cells #[.int .u8 0, .int .i16 0, .int .u8 0, .int .i16 0, .int .u8 0, .int .i16 0, .int .u8 0, .int .i16 0, .int .u8 0, .int .i16 0, .int .u8 0, .int .i16 0, .int .u8 0, .int .i16 0, .int .u8 0, .int .i16 0, .int .u8 0, .int .i16 0, .int .u8 0, .int .i16 0, .int .u8 0, .int .i16 0, .int .u8 0, .int .i16 0] 28)) w.heap.size 28 bs := ((CBlk.new w 28 bs).alloc _).alloc _
  have h3 : CBlk (((w.alloc (.cells (ccells bs).toArray 28)).alloc (.cells #[.int .u8 p, .int .i16 q] 26)).alloc (.cells #[.int .u8 0, .int .i16 0, .int .u8 0, .int .i16 0, .int .u8 0, .int .i16 0, .int .u8 0, .int .i16 0, .int .u8 0, .int .i16 0, .int .u8 0, .int .i16 0, .int .u8 0, .int .i16 0, .int .u8 0, .int .i16 0, .int .u8 0, .int .i16 0, .int .u8 0, .int .i16 0, .int .u8 0, .int .i16 0, .int .u8 0, .int .i16 0] 28)) (w.heap.size + 1) 26 [(p, q)] := by
    refine CBlk.alloc ?_ _
    exact CBlk.new' (by simp) rfl
  have h2 : CBlk (((w.alloc (.cells (ccells bs).toArray 28)).alloc (.cells #[.int .u8 p, .int .i16 q] 26)).alloc (.cells #[.int .u8 0, .int .i16 0, .int .u8 0, .int .i16 0, .int .u8 0, .int .i16 0, .int .u8 0, .int .i16 0, .int .u8 0, .int .i16 0, .int .u8 0, .int .i16 0, .int .u8 0, .int .i16 0, .int .u8 0, .int .i16 0, .int .u8 0, .int .i16 0, .int .u8 0, .int .i16 0, .int .u8 0, .int .i16 0, .int .u8 0, .int .i16 0] 28)) (w.heap.size + 1 + 1) 28 noB := CBlk.new' (by simp) rfl
  have h4 : Below w.heap.size w (((w.alloc (.cells (ccells bs).toArray 28)).alloc (.cells #[.int .u8 p, .int .i16 q] 26)).alloc (.cells #[.int .u8 0, .int .i16 0, .int .u8 0, .int .i16 0, .int .u8 0, .int .i16 0, .int .u8 0, .int .i16 0, .int .u8 0, .int .i16 0, .int .u8 0, .int .i16 0, .int .u8 0, .int .i16 0, .int .u8 0, .int .i16 0, .int .u8 0, .int .i16 0, .int .u8 0, .int .i16 0, .int .u8 0, .int .i16 0, .int .u8 0, .int .i16 0] 28)) := (by repeat (first | exact Below.refl _ _ | refine Below.drew ?_ | refine Below.alloc ?_ (by simp <;> omega) _ | refine Below.setCell ?_ (by simp <;> omega) _))
  have H1 := Lib.hid h1
  have H2 := Lib.hid h2
  have H3 := Lib.hid h3
  have H4 := Lib.hid h4
  clear h1 h2 h3 h4
  go_enter Tryd.func7, Tryd.ntmps7
  go_wp2_with fail
  refine (l01Ok_any bs HW.out _ _ H1.out).mono ?_
  rintro e w1 ⟨rfl, hb1⟩
  have HB1 : Hid (Below w.heap.size w w1) := H4.out.trans (hb1.mono H4.out.size)
  have K1 : Hid (CBlk w1 w.heap.size 28 bs) := H1.out.below hb1 H1.out.lt
  have K2 : Hid (CBlk w1 (w.heap.size + 1 + 1) 28 noB) := H2.out.below hb1 H2.out.lt
  have K3 : Hid (CBlk w1 (w.heap.size + 1) 26 [(p, q)]) := H3.out.below hb1 H3.out.lt
  clear hb1 H1 H2 H3 H4
  rw [hok]
  have b0 : w1.cell? ⟨w.heap.size + 1, 0, none⟩ = some (.int .u8 p) := K3.out.cell 0
  have b1 : w1.cell? ⟨w.heap.size + 1, 1, none⟩ = some (.int .i16 q) := K3.out.cell 1
  go_wp2_with fail
  refine (l01Bottle_any p q HP.out HQ.out _).mono ?_
  rintro e w2 ⟨rfl, hb2⟩
  have HB2 : Hid (Below w.heap.size w w2) := HB1.out.trans (hb2.mono HB1.out.size)
  have L1 : Hid (CBlk w2 w.heap.size 28 bs) := K1.out.below hb2 K1.out.lt
  have L2 : Hid (CBlk w2 (w.heap.size + 1 + 1) 28 noB) := K2.out.below hb2 K2.out.lt
  have L3 : Hid (CBlk w2 (w.heap.size + 1) 26 [(p, q)]) := K3.out.below hb2 K3.out.lt
  clear hb2 b0 b1 K1 K2 K3 HB1
  have K1 := L1
  have K2 := L2
  have K3 := L3
  have HB1 := HB2
  clear L1 L2 L3 HB2
  rw [hv]
  have Hk := Lib.hid hbk
  have e1 := K1.out.kind' hbk
  have e2 := K1.out.year' hbk
  have hl0 : (0 : Int) ≤ k := by omega
  have hl1 : (k : Int) ≤ 11 := by omega
  have hl2 : (k : Int) < 12 := by omega
  clear hbk
  go_wp2_with (first
    | (go_at_call 21; go_in)
    | (go_at_call 33; go_in))
  refine (l01Free_any _ _ _).mono ?_
  rintro e w2 ⟨rfl, hb2⟩
  have HB2 : Hid (Below w.heap.size w w2) := HB1.out.trans (hb2.mono HB1.out.size)
  have L1 : Hid (CBlk w2 w.heap.size 28 bs) := K1.out.below hb2 K1.out.lt
  have L2 : Hid (CBlk w2 (w.heap.size + 1 + 1) 28 noB) := K2.out.below hb2 K2.out.lt
  have L3 : Hid (CBlk w2 (w.heap.size + 1) 26 [(p, q)]) := K3.out.below hb2 K3.out.lt
  clear hb2 e1 e2 K1 K2 K3 HB1
  rw [hE]
  have e1 := L1.out.kind' Hk.out
  have e2 := L1.out.year' Hk.out
  have f1 := L1.out.frozen (k * 2)
  have f2 := L1.out.frozen (k * 2 + 1)
  have b0 : w2.cell? ⟨w.heap.size + 1, 0, none⟩ = some (.int .u8 p) := L3.out.cell 0
  have b1 : w2.cell? ⟨w.heap.size + 1, 1, none⟩ = some (.int .i16 q) := L3.out.cell 1
  have M0 : Hid (CBlk ((w2.setCell ⟨w.heap.size, k * 2, none⟩ (.int .u8 p)).setCell ⟨w.heap.size, k * 2 + 1, none⟩ (.int .i16 q)) w.heap.size 28 (bs.set k (p, q))) := CBlk.set L1.out k (by rw [HW.out.1]; exact hk) (p, q)
  have M2 : Hid (CBlk ((w2.setCell ⟨w.heap.size, k * 2, none⟩ (.int .u8 p)).setCell ⟨w.heap.size, k * 2 + 1, none⟩ (.int .i16 q)) (w.heap.size + 1 + 1) 28 noB) := (L2.out.other (by omega) _ _).other (by omega) _ _
  have MB : Hid (Below w.heap.size w ((w2.setCell ⟨w.heap.size, k * 2, none⟩ (.int .u8 p)).setCell ⟨w.heap.size, k * 2 + 1, none⟩ (.int .i16 q))) := (HB2.out.setCell (p := ⟨w.heap.size, k * 2, none⟩) (Nat.le_refl _) _).setCell (p := ⟨w.heap.size, k * 2 + 1, none⟩) (Nat.le_refl _) _
  have HY : Hid ((bs.set k (p, q)).length = 12) := by show (bs.set k (p, q)).length = 12; rw [List.length_set]; exact HW.out.1
  go_wp2_with (first
    | (refine wpList_load_row rfl 28 (.tmp 3) rfl w.heap.size rfl 28 _ (0, 0) _ M0.out Tryd.underlying28 rfl (size_of_crate Tryd.sizeCr _ HY.out) ?_)
    | (refine wpList_store_row rfl 28 (.tmp 6) (.tmp 29) rfl (w.heap.size + 1 + 1) (ccells (bs.set k (p, q))).toArray rfl rfl 28 _ M2.out (size_of_crate Tryd.sizeCr _ HY.out) (by show (ccells noB).toArray.size = _; rw [ccells_size _ HY.out]; rfl) (ccells_one _) ?_))
  exact bodyPost_ret (v := putV (bs.set k (p, q)) 0) (results_ct2 (v2 := .int .i64 0) rfl _ (by rfl) _ _ 28 _ (0, 0) _ rfl (CBlk.setRow (Y := bs.set k (p, q)) M2.out) Tryd.underlying28 rfl (size_of_crate Tryd.sizeCr _ HY.out)) rfl ⟨rfl, Below.setRow MB.out _ _ (by omega)⟩
end Go.Proofs.YtjiihdljchaeiadDoor
