/-
  The contracts of the model's AddBottle. No condition but the crate's length and that its numbers fit their kinds.
-/
import Derived.Test.YtjiihdljchaeiadDoorBt
import Derived.Test.YtjiihdljchaeiadDoorFi
import Derived.Test.YtjiihdljchaeiadDoorFF
namespace Go.Proofs.YtjiihdljchaeiadDoor
open Go.ChangeShapes Go.WideShapes Go.ChangeAt Go.RowKit Go.Deep
theorem results_ctt {P : Program} {fn : Func} {p q r : Tmp} {ty : TypeId} {v2 v3 : Value} (h : fn.results = #[.cell p ty, .tmp q, .tmp r]) (tmps : Array Value) (hq : tmps.getD q undef = v2) (hr : tmps.getD r undef = v3) (w : World) (g : Nat) (t : TypeId) (cs : Array Value) (fr : Nat × Nat) (d : TypeDesc)
    (hp : tmps.getD p undef = .pointer (some ⟨g, 0, none⟩)) (hg : w.heap[g]? = some (.cells cs t fr))
    (hu : P.underlying ty = some d) (hd : (match d with | .struct _ | .array _ _ => true | _ => false) = true) (hi : (P.info? ty).map (·.size) = some cs.size) :
    (results fn tmps).run P w = .ok (.tuple #[.agg cs, v2, v3]) w := by
  subst hq
  subst hr
  have hp' : tmps[p]?.getD undef = .pointer (some ⟨g, 0, none⟩) := by simpa using hp
  simp [results, h, hp', asAddr, run_loadVar_row w g t ty cs fr d hg hu hd hi]
/-- What AddBottle answers. -/
def adV (X : List Bot) (a c : Int) : Value := .tuple #[.agg (ccells X).toArray, .int .i64 a, .int .i64 c]
theorem fp_free (bs : List Bot) : fp (eqB (0, 0)) bs = fp eB bs := rfl

set_option maxRecDepth 100000 in
set_option maxHeartbeats 1000000 in
theorem specAdd_bad0 (bs : List Bot) (hwf : WfC bs) (p q : Int) (hp : 0 ≤ p ∧ p ≤ 255) (hq : -32768 ≤ q ∧ q ≤ 32767) (hok : okC bs = false)  (w : World) : Calls Tryd.prog 15 #[.agg (ccells bs).toArray, .agg #[.int .u8 p, .int .i16 q]] w fun e w' => e = .returned (adV noB 0 1) ∧ Below w.heap.size w w' := by
  have HW := Lib.hid hwf
  have HP := Lib.hid hp
  have HQ := Lib.hid hq
  clear hwf hp hq
  have h1 : CBlk (((w.alloc (.cells (ccells bs).toArray 28)).alloc (.cells #[.int .u8 p, .int .i16 q] 26)).alloc (.cells #[.int .u8 0, .int .i16 0, .int .u8 0, .int .i16 0, .int .u8 0, .int .i16 0, .int .u8 0, .int .i16 0, .int .u8 0, .int .i16 0, .int .u8 0, .int .i16 0, .int .u8 0, .int .i16 0, .int .u8 0, .int .i16 0, .int .u8 0, .int .i16 0, .int .u8 0, .int .i16 0, .int .u8 0, .int .i16 0, .int .u8 0, .int .i16 0] 28)) w.heap.size 28 bs := ((CBlk.new w 28 bs).alloc _).alloc _
  have h3 : CBlk (((w.alloc (.cells (ccells bs).toArray 28)).alloc (.cells #[.int .u8 p, .int .i16 q] 26)).alloc (.cells #[.int .u8 0, .int .i16 0, .int .u8 0, .int .i16 0, .int .u8 0, .int .i16 0, .int .u8 0, .int .i16 0, .int .u8 0, .int .i16 0, .int .u8 0, .int .i16 0, .int .u8 0, .int .i16 0, .int .u8 0, .int .i16 0, .int .u8 0, .int .i16 0, .int .u8 0, .int .i16 0, .int .u8 0, .int .i16 0, .int .u8 0, .int .i16 0] 28)) (w.heap.size + 1) 26 [(p, q)] := by
    refine CBlk.alloc ?_ _
    exact CBlk.new' (by simp) rfl
  have h2 : CBlk (((w.alloc (.cells (ccells bs).toArray 28)).alloc (.cells #[.int .u8 p, .int .i16 q] 26)).alloc (.cells #[.int .u8 0, .int .i16 0, .int .u8 0, .int .i16 0, .int .u8 0, .int .i16 0, .int .u8 0, .int .i16 0, .int .u8 0, .int .i16 0, .int .u8 0, .int .i16 0, .int .u8 0, .int .i16 0, .int .u8 0, .int .i16 0, .int .u8 0, .int .i16 0, .int .u8 0, .int .i16 0, .int .u8 0, .int .i16 0, .int .u8 0, .int .i16 0] 28)) (w.heap.size + 1 + 1) 28 noB := CBlk.new' (by simp) rfl
  have h4 : Below w.heap.size w (((w.alloc (.cells (ccells bs).toArray 28)).alloc (.cells #[.int .u8 p, .int .i16 q] 26)).alloc (.cells #[.int .u8 0, .int .i16 0, .int .u8 0, .int .i16 0, .int .u8 0, .int .i16 0, .int .u8 0, .int .i16 0, .int .u8 0, .int .i16 0, .int .u8 0, .int .i16 0, .int .u8 0, .int .i16 0, .int .u8 0, .int .i16 0, .int .u8 0, .int .i16 0, .int .u8 0, .int .i16 0, .int .u8 0, .int .i16 0, .int .u8 0, .int .i16 0] 28)) := (by repeat (first | exact Below.refl _ _ | refine Below.drew ?_ | refine Below.alloc ?_ (by simp <;> omega) _ | refine Below.setCell ?_ (by simp <;> omega) _))
  have H1 := Lib.hid h1
  have H2 := Lib.hid h2
  have H3 := Lib.hid h3
  have H4 := Lib.hid h4
  clear h1 h2 h3 h4
  go_enter Tryd.func15, Tryd.ntmps15
  go_wp2_with fail
  refine (l01Ok_any bs HW.out _ _ H1.out).mono ?_
  rintro e w1 ⟨rfl, hb1⟩
  have HB1 : Hid (Below w.heap.size w w1) := H4.out.trans (hb1.mono H4.out.size)
  have K1 : Hid (CBlk w1 w.heap.size 28 bs) := H1.out.below hb1 H1.out.lt
  have K2 : Hid (CBlk w1 (w.heap.size + 1 + 1) 28 noB) := H2.out.below hb1 H2.out.lt
  have K3 : Hid (CBlk w1 (w.heap.size + 1) 26 [(p, q)]) := H3.out.below hb1 H3.out.lt
  clear hb1 H1 H2 H3 H4
  rw [hok]
  go_wp2_with (refine wpList_store_row rfl 28 (.tmp 4) (.tmp 15) rfl (w.heap.size + 1 + 1) (ccells noB).toArray rfl rfl 28 _ K2.out (size_of_crate Tryd.sizeCr _ rfl) rfl (ccells_one _) ?_)
  exact bodyPost_ret (v := adV noB 0 1) (results_ctt (v2 := .int .i64 0) (v3 := .int .i64 1) rfl _ (by rfl) (by rfl) _ _ 28 _ (0, 0) _ rfl (CBlk.setRow (Y := noB) K2.out) Tryd.underlying28 rfl (size_of_crate Tryd.sizeCr _ rfl)) rfl ⟨rfl, Below.setRow HB1.out _ _ (by omega)⟩

set_option maxRecDepth 100000 in
set_option maxHeartbeats 1000000 in
theorem specAdd_bad1 (bs : List Bot) (hwf : WfC bs) (p q : Int) (hp : 0 ≤ p ∧ p ≤ 255) (hq : -32768 ≤ q ∧ q ≤ 32767) (hok : okC bs = true) (hv : vB (p, q) = false)  (w : World) : Calls Tryd.prog 15 #[.agg (ccells bs).toArray, .agg #[.int .u8 p, .int .i16 q]] w fun e w' => e = .returned (adV noB 0 1) ∧ Below w.heap.size w w' := by
  have HW := Lib.hid hwf
  have HP := Lib.hid hp
  have HQ := Lib.hid hq
  clear hwf hp hq
  have h1 : CBlk (((w.alloc (.cells (ccells bs).toArray 28)).alloc (.cells #[.int .u8 p, .int .i16 q] 26)).alloc (.cells #[.int .u8 0, .int .i16 0, .int .u8 0, .int .i16 0, .int .u8 0, .int .i16 0, .int .u8 0, .int .i16 0, .int .u8 0, .int .i16 0, .int .u8 0, .int .i16 0, .int .u8 0, .int .i16 0, .int .u8 0, .int .i16 0, .int .u8 0, .int .i16 0, .int .u8 0, .int .i16 0, .int .u8 0, .int .i16 0, .int .u8 0, .int .i16 0] 28)) w.heap.size 28 bs := ((CBlk.new w 28 bs).alloc _).alloc _
  have h3 : CBlk (((w.alloc (.cells (ccells bs).toArray 28)).alloc (.cells #[.int .u8 p, .int .i16 q] 26)).alloc (.cells #[.int .u8 0, .int .i16 0, .int .u8 0, .int .i16 0, .int .u8 0, .int .i16 0, .int .u8 0, .int .i16 0, .int .u8 0, .int .i16 0, .int .u8 0, .int .i16 0, .int .u8 0, .int .i16 0, .int .u8 0, .int .i16 0, .int .u8 0, .int .i16 0, .int .u8 0, .int .i16 0, .int .u8 0, .int .i16 0, .int .u8 0, .int .i16 0] 28)) (w.heap.size + 1) 26 [(p, q)] := by
    refine CBlk.alloc ?_ _
    exact CBlk.new' (by simp) rfl
  have h2 : CBlk (((w.alloc (.cells (ccells bs).toArray 28)).alloc (.cells #[.int .u8 p, .int .i16 q] 26)).alloc (.cells #[.int .u8 0, .int .i16 0, .int .u8 0, .int .i16 0, .int .u8 0, .int .i16 0, .int .u8 0, .int .i16 0, .int .u8 0, .int .i16 0, .int .u8 0, .int .i16 0, .int .u8 0, .int .i16 0, .int .u8 0, .int .i16 0, .int .u8 0, .int .i16 0, .int .u8 0, .int .i16 0, .int .u8 0, .int .i16 0, .int .u8 0, .int .i16 0] 28)) (w.heap.size + 1 + 1) 28 noB := CBlk.new' (by simp) rfl
  have h4 : Below w.heap.size w (((w.alloc (.cells (ccells bs).toArray 28)).alloc (.cells #[.int .u8 p, .int .i16 q] 26)).alloc (.cells #[.int .u8 0, .int .i16 0, .int .u8 0, .int .i16 0, .int .u8 0, .int .i16 0, .int .u8 0, .int .i16 0, .int .u8 0, .int .i16 0, .int .u8 0, .int .i16 0, .int .u8 0, .int .i16 0, .int .u8 0, .int .i16 0, .int .u8 0, .int .i16 0, .int .u8 0, .int .i16 0, .int .u8 0, .int .i16 0, .int .u8 0, .int .i16 0] 28)) := (by repeat (first | exact Below.refl _ _ | refine Below.drew ?_ | refine Below.alloc ?_ (by simp <;> omega) _ | refine Below.setCell ?_ (by simp <;> omega) _))
  have H1 := Lib.hid h1
  have H2 := Lib.hid h2
  have H3 := Lib.hid h3
  have H4 := Lib.hid h4
  clear h1 h2 h3 h4
  go_enter Tryd.func15, Tryd.ntmps15
  go_wp2_with fail
  refine (l01Ok_any bs HW.out _ _ H1.out).mono ?_
  rintro e w1 ⟨rfl, hb1⟩
  have HB1 : Hid (Below w.heap.size w w1) := H4.out.trans (hb1.mono H4.out.size)
  have K1 : Hid (CBlk w1 w.heap.size 28 bs) := H1.out.below hb1 H1.out.lt
  have K2 : Hid (CBlk w1 (w.heap.size + 1 + 1) 28 noB) := H2.out.below hb1 H2.out.lt
  have K3 : Hid (CBlk w1 (w.heap.size + 1) 26 [(p, q)]) := H3.out.below hb1 H3.out.lt
  clear hb1 H1 H2 H3 H4
  rw [hok]
  have b0 : w1.cell? ⟨w.heap.size + 1, 0, none⟩ = some (.int .u8 p) := K3.out.cell 0
  have b1 : w1.cell? ⟨w.heap.size + 1, 1, none⟩ = some (.int .i16 q) := K3.out.cell 1
  go_wp2_with fail
  refine (l01Bottle_any p q HP.out HQ.out _).mono ?_
  rintro e w2 ⟨rfl, hb2⟩
  have HB2 : Hid (Below w.heap.size w w2) := HB1.out.trans (hb2.mono HB1.out.size)
  have L1 : Hid (CBlk w2 w.heap.size 28 bs) := K1.out.below hb2 K1.out.lt
  have L2 : Hid (CBlk w2 (w.heap.size + 1 + 1) 28 noB) := K2.out.below hb2 K2.out.lt
  have L3 : Hid (CBlk w2 (w.heap.size + 1) 26 [(p, q)]) := K3.out.below hb2 K3.out.lt
  clear hb2 K1 K2 K3 HB1
  have K1 := L1
  have K2 := L2
  have K3 := L3
  have HB1 := HB2
  clear L1 L2 L3 HB2
  clear b0 b1
  rw [hv]
  go_wp2_with (refine wpList_store_row rfl 28 (.tmp 4) (.tmp 15) rfl (w.heap.size + 1 + 1) (ccells noB).toArray rfl rfl 28 _ K2.out (size_of_crate Tryd.sizeCr _ rfl) rfl (ccells_one _) ?_)
  exact bodyPost_ret (v := adV noB 0 1) (results_ctt (v2 := .int .i64 0) (v3 := .int .i64 1) rfl _ (by rfl) (by rfl) _ _ 28 _ (0, 0) _ rfl (CBlk.setRow (Y := noB) K2.out) Tryd.underlying28 rfl (size_of_crate Tryd.sizeCr _ rfl)) rfl ⟨rfl, Below.setRow HB1.out _ _ (by omega)⟩

set_option maxRecDepth 100000 in
set_option maxHeartbeats 1000000 in
theorem specAdd_none (bs : List Bot) (hwf : WfC bs) (p q : Int) (hp : 0 ≤ p ∧ p ≤ 255) (hq : -32768 ≤ q ∧ q ≤ 32767) (hok : okC bs = true) (hv : vB (p, q) = true) (hf : fp eB bs = -1) (w : World) : Calls Tryd.prog 15 #[.agg (ccells bs).toArray, .agg #[.int .u8 p, .int .i16 q]] w fun e w' => e = .returned (adV noB 0 3) ∧ Below w.heap.size w w' := by
  have HW := Lib.hid hwf
  have HP := Lib.hid hp
  have HQ := Lib.hid hq
  clear hwf hp hq
  have h1 : CBlk (((w.alloc (.cells (ccells bs).toArray 28)).alloc (.cells #[.int .u8 p, .int .i16 q] 26)).alloc (.cells #[.int .u8 0, .int .i16 0, .int .u8 0, .int .i16 0, .int .u8 0, .int .i16 0, .int .u8 0, .int .i16 0, .int .u8 0, .int .i16 0, .int .u8 0, .int .i16 0, .int .u8 0, .int .i16 0, .int .u8 0, .int .i16 0, .int .u8 0, .int .i16 0, .int .u8 0, .int .i16 0, .int .u8 0, .int .i16 0, .int .u8 0, .int .i16 0] 28)) w.heap.size 28 bs := ((CBlk.new w 28 bs).alloc _).alloc _
  have h3 : CBlk (((w.alloc (.cells (ccells bs).toArray 28)).alloc (.cells #[.int .u8 p, .int .i16 q] 26)).alloc (.cells #[.int .u8 0, .int .i16 0, .int .u8 0, .int .i16 0, .int .u8 0, .int .i16 0, .int .u8 0, .int .i16 0, .int .u8 0, .int .i16 0, .int .u8 0, .int .i16 0, .int .u8 0, .int .i16 0, .int .u8 0, .int .i16 0, .int .u8 0, .int .i16 0, .int .u8 0, .int .i16 0, .int .u8 0, .int .i16 0, .int .u8 0, .int .i16 0] 28)) (w.heap.size + 1) 26 [(p, q)] := by
    refine CBlk.alloc ?_ _
    exact CBlk.new' (by simp) rfl
  have h2 : CBlk (((w.alloc (.cells (ccells bs).toArray 28)).alloc (.cells #[.int .u8 p, .int .i16 q] 26)).alloc (.cells #[.int .u8 0, .int .i16 0, .int .u8 0, .int .i16 0, .int .u8 0, .int .i16 0, .int .u8 0, .int .i16 0, .int .u8 0, .int .i16 0, .int .u8 0, .int .i16 0, .int .u8 0, .int .i16 0, .int .u8 0, .int .i16 0, .int .u8 0, .int .i16 0, .int .u8 0, .int .i16 0, .int .u8 0, .int .i16 0, .int .u8 0, .int .i16 0] 28)) (w.heap.size + 1 + 1) 28 noB := CBlk.new' (by simp) rfl
  have h4 : Below w.heap.size w (((w.alloc (.cells (ccells bs).toArray 28)).alloc (.cells #[.int .u8 p, .int .i16 q] 26)).alloc (.cells #[.int .u8 0, .int .i16 0, .int .u8 0, .int .i16 0, .int .u8 0, .int .i16 0, .int .u8 0, .int .i16 0, .int .u8 0, .int .i16 0, .int .u8 0, .int .i16 0, .int .u8 0, .int .i16 0, .int .u8 0, .int .i16 0, .int .u8 0, .int .i16 0, .int .u8 0, .int .i16 0, .int .u8 0, .int .i16 0, .int .u8 0, .int .i16 0] 28)) := (by repeat (first | exact Below.refl _ _ | refine Below.drew ?_ | refine Below.alloc ?_ (by simp <;> omega) _ | refine Below.setCell ?_ (by simp <;> omega) _))
  have H1 := Lib.hid h1
  have H2 := Lib.hid h2
  have H3 := Lib.hid h3
  have H4 := Lib.hid h4
  clear h1 h2 h3 h4
  go_enter Tryd.func15, Tryd.ntmps15
  go_wp2_with fail
  refine (l01Ok_any bs HW.out _ _ H1.out).mono ?_
  rintro e w1 ⟨rfl, hb1⟩
  have HB1 : Hid (Below w.heap.size w w1) := H4.out.trans (hb1.mono H4.out.size)
  have K1 : Hid (CBlk w1 w.heap.size 28 bs) := H1.out.below hb1 H1.out.lt
  have K2 : Hid (CBlk w1 (w.heap.size + 1 + 1) 28 noB) := H2.out.below hb1 H2.out.lt
  have K3 : Hid (CBlk w1 (w.heap.size + 1) 26 [(p, q)]) := H3.out.below hb1 H3.out.lt
  clear hb1 H1 H2 H3 H4
  rw [hok]
  have b0 : w1.cell? ⟨w.heap.size + 1, 0, none⟩ = some (.int .u8 p) := K3.out.cell 0
  have b1 : w1.cell? ⟨w.heap.size + 1, 1, none⟩ = some (.int .i16 q) := K3.out.cell 1
  go_wp2_with fail
  refine (l01Bottle_any p q HP.out HQ.out _).mono ?_
  rintro e w2 ⟨rfl, hb2⟩
  have HB2 : Hid (Below w.heap.size w w2) := HB1.out.trans (hb2.mono HB1.out.size)
  have L1 : Hid (CBlk w2 w.heap.size 28 bs) := K1.out.below hb2 K1.out.lt
  have L2 : Hid (CBlk w2 (w.heap.size + 1 + 1) 28 noB) := K2.out.below hb2 K2.out.lt
  have L3 : Hid (CBlk w2 (w.heap.size + 1) 26 [(p, q)]) := K3.out.below hb2 K3.out.lt
  clear hb2 K1 K2 K3 HB1
  have K1 := L1
  have K2 := L2
  have K3 := L3
  have HB1 := HB2
  clear L1 L2 L3 HB2
  clear b0 b1
  rw [hv]
  go_wp2_with fail
  refine (l01First_any bs HW.out 0 0 _ _ K1.out).mono ?_
  rintro e w3 ⟨rfl, hb2⟩
  have HB2 : Hid (Below w.heap.size w w3) := HB1.out.trans (hb2.mono HB1.out.size)
  have L1 : Hid (CBlk w3 w.heap.size 28 bs) := K1.out.below hb2 K1.out.lt
  have L2 : Hid (CBlk w3 (w.heap.size + 1 + 1) 28 noB) := K2.out.below hb2 K2.out.lt
  have L3 : Hid (CBlk w3 (w.heap.size + 1) 26 [(p, q)]) := K3.out.below hb2 K3.out.lt
  clear hb2 K1 K2 K3 HB1
  have K1 := L1
  have K2 := L2
  have K3 := L3
  have HB1 := HB2
  clear L1 L2 L3 HB2
  rw [fp_free, hf]
  go_wp2_with (refine wpList_store_row rfl 28 (.tmp 4) (.tmp 20) rfl (w.heap.size + 1 + 1) (ccells noB).toArray rfl rfl 28 _ K2.out (size_of_crate Tryd.sizeCr _ rfl) rfl (ccells_one _) ?_)
  exact bodyPost_ret (v := adV noB 0 3) (results_ctt (v2 := .int .i64 0) (v3 := .int .i64 3) rfl _ (by rfl) (by rfl) _ _ 28 _ (0, 0) _ rfl (CBlk.setRow (Y := noB) K2.out) Tryd.underlying28 rfl (size_of_crate Tryd.sizeCr _ rfl)) rfl ⟨rfl, Below.setRow HB1.out _ _ (by omega)⟩

set_option maxRecDepth 100000 in
set_option maxHeartbeats 1000000 in
theorem specAdd_hit (bs : List Bot) (hwf : WfC bs) (p q : Int) (hp : 0 ≤ p ∧ p ≤ 255) (hq : -32768 ≤ q ∧ q ≤ 32767) (hok : okC bs = true) (hv : vB (p, q) = true) (k : Nat) (hk : k < 12) (hf : fp eB bs = k) (w : World) : Calls Tryd.prog 15 #[.agg (ccells bs).toArray, .agg #[.int .u8 p, .int .i16 q]] w fun e w' => e = .returned (adV (bs.set k (p, q)) k 0) ∧ Below w.heap.size w w' := by
  have HW := Lib.hid hwf
  have HP := Lib.hid hp
  have HQ := Lib.hid hq
  clear hwf hp hq
  have h1 : CBlk (((w.alloc (.cells (ccells bs).toArray 28)).alloc (.cells #[.int .u8 p, .int .i16 q] 26)).alloc (.cells #[.int .u8 0, .int .i16 0, .int .u8 0, .int .i16 0, .int .u8 0, .int .i16 0, .int .u8 0, .int .i16 0, .int .u8 0, .int .i16 0, .int .u8 0, .int .i16 0, .int .u8 0, .int .i16 0, .int .u8 0, .int .i16 0, .int .u8 0, .int .i16 0, .int .u8 0, .int .i16 0, .int .u8 0, .int .i16 0, .int .u8 0, .int .i16 0] 28)) w.heap.size 28 bs := ((CBlk.new w 28 bs).alloc _).alloc _
  have h3 : CBlk (((w.alloc (.cells (ccells bs).toArray 28)).alloc (.cells #[.int .u8 p, .int .i16 q] 26)).alloc (.cells #[.int .u8 0, .int .i16 0, .int .u8 0, .int .i16 0, .int .u8 0, .int .i16 0, .int .u8 0, .int .i16 0, .int .u8 0, .int .i16 0, .int .u8 0, .int .i16 0, .int .u8 0, .int .i16 0, .int .u8 0, .int .i16 0, .int .u8 0, .int .i16 0, .int .u8 0, .int .i16 0, .int .u8 0, .int .i16 0, .int .u8 0, .int .i16 0] 28)) (w.heap.size + 1) 26 [(p, q)] := by
    refine CBlk.alloc ?_ _
    exact CBlk.new' (by simp) rfl
  have h2 : CBlk (((w.alloc (.cells (ccells bs).toArray 28)).alloc (.cells #[.int .u8 p, .int .i16 q] 26)).alloc (.cells #[.int .u8 0, .int .i16 0, .int .u8 0, .int .i16 0, .int .u8 0, .int .i16 0, .int .u8 0, .int .i16 0, .int .u8 0, .int .i16 0, .int .u8 0, .int .i16 0, .int .u8 0, .int .i16 0, .int .u8 0, .int .i16 0, .int .u8 0, .int .i16 0, .int .u8 0, .int .i16 0, .int .u8 0, .int .i16 0, .int .u8 0, .int .i16 0] 28)) (w.heap.size + 1 + 1) 28 noB := CBlk.new' (by simp) rfl
  have h4 : Below w.heap.size w (((w.alloc (.cells (ccells bs).toArray 28)).alloc (.cells #[.int .u8 p, .int .i16 q] 26)).alloc (.cells #[.int .u8 0, .int .i16 0, .int .u8 0, .int .i16 0, .int .u8 0, .int .i16 0, .int .u8 0, .int .i16 0, .int .u8 0, .int .i16 0, .int .u8 0, .int .i16 0, .int .u8 0, .int .i16 0, .int .u8 0, .int .i16 0, .int .u8 0, .int .i16 0, .int .u8 0, .int .i16 0, .int .u8 0, .int .i16 0, .int .u8 0, .int .i16 0] 28)) := (by repeat (first | exact Below.refl _ _ | refine Below.drew ?_ | refine Below.alloc ?_ (by simp <;> omega) _ | refine Below.setCell ?_ (by simp <;> omega) _))
  have H1 := Lib.hid h1
  have H2 := Lib.hid h2
  have H3 := Lib.hid h3
  have H4 := Lib.hid h4
  clear h1 h2 h3 h4
  go_enter Tryd.func15, Tryd.ntmps15
  go_wp2_with fail
  refine (l01Ok_any bs HW.out _ _ H1.out).mono ?_
  rintro e w1 ⟨rfl, hb1⟩
  have HB1 : Hid (Below w.heap.size w w1) := H4.out.trans (hb1.mono H4.out.size)
  have K1 : Hid (CBlk w1 w.heap.size 28 bs) := H1.out.below hb1 H1.out.lt
  have K2 : Hid (CBlk w1 (w.heap.size + 1 + 1) 28 noB) := H2.out.below hb1 H2.out.lt
  have K3 : Hid (CBlk w1 (w.heap.size + 1) 26 [(p, q)]) := H3.out.below hb1 H3.out.lt
  clear hb1 H1 H2 H3 H4
  rw [hok]
  have b0 : w1.cell? ⟨w.heap.size + 1, 0, none⟩ = some (.int .u8 p) := K3.out.cell 0
  have b1 : w1.cell? ⟨w.heap.size + 1, 1, none⟩ = some (.int .i16 q) := K3.out.cell 1
  go_wp2_with fail
  refine (l01Bottle_any p q HP.out HQ.out _).mono ?_
  rintro e w2 ⟨rfl, hb2⟩
  have HB2 : Hid (Below w.heap.size w w2) := HB1.out.trans (hb2.mono HB1.out.size)
  have L1 : Hid (CBlk w2 w.heap.size 28 bs) := K1.out.below hb2 K1.out.lt
  have L2 : Hid (CBlk w2 (w.heap.size + 1 + 1) 28 noB) := K2.out.below hb2 K2.out.lt
  have L3 : Hid (CBlk w2 (w.heap.size + 1) 26 [(p, q)]) := K3.out.below hb2 K3.out.lt
  clear hb2 K1 K2 K3 HB1
  have K1 := L1
  have K2 := L2
  have K3 := L3
  have HB1 := HB2
  clear L1 L2 L3 HB2
  clear b0 b1
  rw [hv]
  go_wp2_with fail
  refine (l01First_any bs HW.out 0 0 _ _ K1.out).mono ?_
  rintro e w3 ⟨rfl, hb2⟩
  have HB2 : Hid (Below w.heap.size w w3) := HB1.out.trans (hb2.mono HB1.out.size)
  have L1 : Hid (CBlk w3 w.heap.size 28 bs) := K1.out.below hb2 K1.out.lt
  have L2 : Hid (CBlk w3 (w.heap.size + 1 + 1) 28 noB) := K2.out.below hb2 K2.out.lt
  have L3 : Hid (CBlk w3 (w.heap.size + 1) 26 [(p, q)]) := K3.out.below hb2 K3.out.lt
  clear hb2 K1 K2 K3 HB1
  have K1 := L1
  have K2 := L2
  have K3 := L3
  have HB1 := HB2
  clear L1 L2 L3 HB2
  rw [fp_free, hf]
  have hl0 : (0 : Int) ≤ k := by omega
  have hl2 : (k : Int) < 12 := by omega
  obtain ⟨x, y, hbk, _, _⟩ := HW.out.at_ hk
  have e1 := K1.out.kind' hbk
  have e2 := K1.out.year' hbk
  clear hbk
  have f1 := K1.out.frozen (k * 2)
  have f2 := K1.out.frozen (k * 2 + 1)
  have b0 : w3.cell? ⟨w.heap.size + 1, 0, none⟩ = some (.int .u8 p) := K3.out.cell 0
  have b1 : w3.cell? ⟨w.heap.size + 1, 1, none⟩ = some (.int .i16 q) := K3.out.cell 1
  have M0 : Hid (CBlk ((w3.setCell ⟨w.heap.size, k * 2, none⟩ (.int .u8 p)).setCell ⟨w.heap.size, k * 2 + 1, none⟩ (.int .i16 q)) w.heap.size 28 (bs.set k (p, q))) := CBlk.set K1.out k (by rw [HW.out.1]; exact hk) (p, q)
  have M2 : Hid (CBlk ((w3.setCell ⟨w.heap.size, k * 2, none⟩ (.int .u8 p)).setCell ⟨w.heap.size, k * 2 + 1, none⟩ (.int .i16 q)) (w.heap.size + 1 + 1) 28 noB) := (K2.out.other (by omega) _ _).other (by omega) _ _
  have MB : Hid (Below w.heap.size w ((w3.setCell ⟨w.heap.size, k * 2, none⟩ (.int .u8 p)).setCell ⟨w.heap.size, k * 2 + 1, none⟩ (.int .i16 q))) := (HB1.out.setCell (p := ⟨w.heap.size, k * 2, none⟩) (Nat.le_refl _) _).setCell (p := ⟨w.heap.size, k * 2 + 1, none⟩) (Nat.le_refl _) _
  have HY : Hid ((bs.set k (p, q)).length = 12) := by show (bs.set k (p, q)).length = 12; rw [List.length_set]; exact HW.out.1
  go_wp2_with (first
    | (refine wpList_load_row rfl 28 (.tmp 2) rfl w.heap.size rfl 28 _ (0, 0) _ M0.out Tryd.underlying28 rfl (size_of_crate Tryd.sizeCr _ HY.out) ?_)
    | (refine wpList_store_row rfl 28 (.tmp 4) (.tmp 24) rfl (w.heap.size + 1 + 1) (ccells (bs.set k (p, q))).toArray rfl rfl 28 _ M2.out (size_of_crate Tryd.sizeCr _ HY.out) (by show (ccells noB).toArray.size = _; rw [ccells_size _ HY.out]; rfl) (ccells_one _) ?_))
  exact bodyPost_ret (v := adV (bs.set k (p, q)) k 0) (results_ctt (v2 := .int .i64 k) (v3 := .int .i64 0) rfl _ (by rfl) (by rfl) _ _ 28 _ (0, 0) _ rfl (CBlk.setRow (Y := bs.set k (p, q)) M2.out) Tryd.underlying28 rfl (size_of_crate Tryd.sizeCr _ HY.out)) rfl ⟨rfl, Below.setRow MB.out _ _ (by omega)⟩
end Go.Proofs.YtjiihdljchaeiadDoor
