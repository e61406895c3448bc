/-
  The contracts of the model's TakeBottle. No condition but the crate's length and that its numbers fit their kinds.
-/
import Derived.Test.YtcmeaiejnghpeaaDoorV
import Derived.Laws.Rows
import Derived.Deep.RegionLaw
namespace Go.Proofs.YtcmeaiejnghpeaaDoor
open Go.ChangeShapes Go.WideShapes Go.ChangeAt Go.RowKit Go.Deep

theorem Tryd.sizeBt : (Tryd.prog.info? 31).map (·.size) = some 2 := by kernel_rfl
theorem size_of_bot {P : Program} {t : TypeId} (h : (P.info? t).map (·.size) = some 2) (b : Bot) : (P.info? t).map (·.size) = some (ccells [b]).toArray.size := h
theorem CBlk.rowOff {w : World} {B B' : Nat} {t : TypeId} {X : List Bot} (h : CBlk w B t X) (hne : B ≠ B') (cs : Array Value) : CBlk (w.setRow B' cs) B t X := (setRow_other w B' B cs hne).trans h
theorem results_cct {P : Program} {fn : Func} {p q r : Tmp} {ty ty' : TypeId} {v2 : Value} (h : fn.results = #[.cell p ty, .cell q ty', .tmp r]) (tmps : Array Value) (hq : tmps.getD r undef = v2) (w : World) (g g' : Nat) (t t' : TypeId) (cs cs' : Array Value) (fr fr' : Nat × Nat) (d d' : TypeDesc)
    (hp : tmps.getD p undef = .pointer (some ⟨g, 0, none⟩)) (hp' : tmps.getD q undef = .pointer (some ⟨g', 0, none⟩)) (hg : w.heap[g]? = some (.cells cs t fr)) (hg' : w.heap[g']? = some (.cells cs' t' fr'))
    (hu : P.underlying ty = some d) (hd : (match d with | .struct _ | .array _ _ => true | _ => false) = true) (hi : (P.info? ty).map (·.size) = some cs.size)
    (hu' : P.underlying ty' = some d') (hd' : (match d' with | .struct _ | .array _ _ => true | _ => false) = true) (hi' : (P.info? ty').map (·.size) = some cs'.size) :
    (results fn tmps).run P w = .ok (.tuple #[.agg cs, .agg cs', v2]) w := by
  subst hq
  have e1 : tmps[p]?.getD undef = .pointer (some ⟨g, 0, none⟩) := by simpa using hp
  have e2 : tmps[q]?.getD undef = .pointer (some ⟨g', 0, none⟩) := by simpa using hp'
  simp [results, h, e1, e2, asAddr, run_loadVar_row w g t ty cs fr d hg hu hd hi, run_loadVar_row w g' t' ty' cs' fr' d' hg' hu' hd' hi']

/-- What TakeBottle answers. -/
def takeV (X : List Bot) (b : Bot) (c : Int) : Value := .tuple #[.agg (ccells X).toArray, .agg (ccells [b]).toArray, .int .i64 c]

set_option maxRecDepth 100000 in
set_option maxHeartbeats 1000000 in
theorem specTake_bad (bs : List Bot) (hwf : WfC bs) (n : Int) (hok : okC bs = false) (w : World) : Calls Tryd.prog 19 #[.agg (ccells bs).toArray, .int .i64 n] w fun e w' => e = .returned (takeV noB (0, 0) 1) ∧ Below w.heap.size w w' := by
  have HW := Lib.hid hwf
  clear hwf
  have h1 : CBlk (((w.alloc (.cells (ccells bs).toArray 33)).alloc (.cells #[.int .u8 0, .int .i16 0, .int .u8 0, .int .i16 0, .int .u8 0, .int .i16 0, .int .u8 0, .int .i16 0, .int .u8 0, .int .i16 0, .int .u8 0, .int .i16 0, .int .u8 0, .int .i16 0, .int .u8 0, .int .i16 0, .int .u8 0, .int .i16 0, .int .u8 0, .int .i16 0, .int .u8 0, .int .i16 0, .int .u8 0, .int .i16 0] 33)).alloc (.cells #[.int .u8 0, .int .i16 0] 31)) w.heap.size 33 bs := ((CBlk.new w 33 bs).alloc _).alloc _
  have h2 : CBlk (((w.alloc (.cells (ccells bs).toArray 33)).alloc (.cells #[.int .u8 0, .int .i16 0, .int .u8 0, .int .i16 0, .int .u8 0, .int .i16 0, .int .u8 0, .int .i16 0, .int .u8 0, .int .i16 0, .int .u8 0, .int .i16 0, .int .u8 0, .int .i16 0, .int .u8 0, .int .i16 0, .int .u8 0, .int .i16 0, .int .u8 0, .int .i16 0, .int .u8 0, .int .i16 0, .int .u8 0, .int .i16 0] 33)).alloc (.cells #[.int .u8 0, .int .i16 0] 31)) (w.heap.size + 1) 33 noB := by
    refine CBlk.alloc ?_ _
    exact CBlk.new' (by simp) rfl
  have h3 : CBlk (((w.alloc (.cells (ccells bs).toArray 33)).alloc (.cells #[.int .u8 0, .int .i16 0, .int .u8 0, .int .i16 0, .int .u8 0, .int .i16 0, .int .u8 0, .int .i16 0, .int .u8 0, .int .i16 0, .int .u8 0, .int .i16 0, .int .u8 0, .int .i16 0, .int .u8 0, .int .i16 0, .int .u8 0, .int .i16 0, .int .u8 0, .int .i16 0, .int .u8 0, .int .i16 0, .int .u8 0, .int .i16 0] 33)).alloc (.cells #[.int .u8 0, .int .i16 0] 31)) (w.heap.size + 1 + 1) 31 [(0, 0)] := CBlk.new' (by simp) rfl
  have h4 : Below w.heap.size w (((w.alloc (.cells (ccells bs).toArray 33)).alloc (.cells #[.int .u8 0, .int .i16 0, .int .u8 0, .int .i16 0, .int .u8 0, .int .i16 0, .int .u8 0, .int .i16 0, .int .u8 0, .int .i16 0, .int .u8 0, .int .i16 0, .int .u8 0, .int .i16 0, .int .u8 0, .int .i16 0, .int .u8 0, .int .i16 0, .int .u8 0, .int .i16 0, .int .u8 0, .int .i16 0, .int .u8 0, .int .i16 0] 33)).alloc (.cells #[.int .u8 0, .int .i16 0] 31)) := (by repeat (first | exact Below.refl _ _ | refine Below.drew ?_ | refine Below.alloc ?_ (by simp <;> omega) _ | refine Below.setCell ?_ (by simp <;> omega) _))
  have H1 := Lib.hid h1
  have H2 := Lib.hid h2
  have H3 := Lib.hid h3
  have H4 := Lib.hid h4
  clear h1 h2 h3 h4
  go_enter Tryd.func19, Tryd.ntmps19
  go_wp2_with fail
  refine (l01Ok_any bs HW.out _ _ H1.out).mono ?_
  rintro e w1 ⟨rfl, hb1⟩
  have HB1 : Hid (Below w.heap.size w w1) := H4.out.trans (hb1.mono H4.out.size)
  have K1 : Hid (CBlk w1 w.heap.size 33 bs) := H1.out.below hb1 H1.out.lt
  have K2 : Hid (CBlk w1 (w.heap.size + 1) 33 noB) := H2.out.below hb1 H2.out.lt
  have K3 : Hid (CBlk w1 (w.heap.size + 1 + 1) 31 [(0, 0)]) := H3.out.below hb1 H3.out.lt
  have K4 : Hid (CBlk (w1.setRow (w.heap.size + 1) (ccells noB).toArray) (w.heap.size + 1 + 1) 31 [(0, 0)]) := K3.out.rowOff (by omega) _
  clear hb1 H1 H2 H3 H4
  rw [hok]
  go_wp2_with
    (first
    | (refine wpList_store_row rfl 33 (.tmp 4) (.tmp 10) rfl (w.heap.size + 1) (ccells noB).toArray rfl rfl 33 _ K2.out (size_of_crate Tryd.sizeCr _ rfl) rfl (ccells_one _) ?_)
    | (refine wpList_store_row rfl 31 (.tmp 5) (.tmp 11) rfl (w.heap.size + 1 + 1) (ccells [(0, 0)]).toArray rfl rfl 31 _ K4.out (size_of_bot Tryd.sizeBt _) rfl (ccells_one _) ?_))
  exact bodyPost_ret (v := takeV noB (0, 0) 1) (results_cct (v2 := .int .i64 1) rfl _ (by rfl) _ _ _ 33 31 _ _ (0, 0) (0, 0) _ _ rfl rfl ((CBlk.setRow (Y := noB) K2.out).rowOff (by omega) _) (K4.out.setRow (Y := [(0, 0)])) Tryd.underlying33 rfl (size_of_crate Tryd.sizeCr _ rfl) Tryd.underlying31 rfl (size_of_bot Tryd.sizeBt _)) rfl ⟨rfl, Below.setRow (Below.setRow HB1.out _ _ (by omega)) _ _ (by omega)⟩

set_option maxRecDepth 100000 in
set_option maxHeartbeats 1000000 in
theorem specTake_range0 (bs : List Bot) (hwf : WfC bs) (n : Int) (hok : okC bs = true) (hn : n < 0) (w : World) : Calls Tryd.prog 19 #[.agg (ccells bs).toArray, .int .i64 n] w fun e w' => e = .returned (takeV noB (0, 0) 2) ∧ Below w.heap.size w w' := by
  have HW := Lib.hid hwf
  clear hwf
  have h1 : CBlk (((w.alloc (.cells (ccells bs).toArray 33)).alloc (.cells #[.int .u8 0, .int .i16 0, .int .u8 0, .int .i16 0, .int .u8 0, .int .i16 0, .int .u8 0, .int .i16 0, .int .u8 0, .int .i16 0, .int .u8 0, .int .i16 0, .int .u8 0, .int .i16 0, .int .u8 0, .int .i16 0, .int .u8 0, .int .i16 0, .int .u8 0, .int .i16 0, .int .u8 0, .int .i16 0, .int .u8 0, .int .i16 0] 33)).alloc (.cells #[.int .u8 0, .int .i16 0] 31)) w.heap.size 33 bs := ((CBlk.new w 33 bs).alloc _).alloc _
  have h2 : CBlk (((w.alloc (.cells (ccells bs).toArray 33)).alloc (.cells #[.int .u8 0, .int .i16 0, .int .u8 0, .int .i16 0, .int .u8 0, .int .i16 0, .int .u8 0, .int .i16 0, .int .u8 0, .int .i16 0, .int .u8 0, .int .i16 0, .int .u8 0, .int .i16 0, .int .u8 0, .int .i16 0, .int .u8 0, .int .i16 0, .int .u8 0, .int .i16 0, .int .u8 0, .int .i16 0, .int .u8 0, .int .i16 0] 33)).alloc (.cells #[.int .u8 0, .int .i16 0] 31)) (w.heap.size + 1) 33 noB := by
    refine CBlk.alloc ?_ _
    exact CBlk.new' (by simp) rfl
  have h3 : CBlk (((w.alloc (.cells (ccells bs).toArray 33)).alloc (.cells #[.int .u8 0, .int .i16 0, .int .u8 0, .int .i16 0, .int .u8 0, .int .i16 0, .int .u8 0, .int .i16 0, .int .u8 0, .int .i16 0, .int .u8 0, .int .i16 0, .int .u8 0, .int .i16 0, .int .u8 0, .int .i16 0, .int .u8 0, .int .i16 0, .int .u8 0, .int .i16 0, .int .u8 0, .int .i16 0, .int .u8 0, .int .i16 0] 33)).alloc (.cells #[.int .u8 0, .int .i16 0] 31)) (w.heap.size + 1 + 1) 31 [(0, 0)] := CBlk.new' (by simp) rfl
  have h4 : Below w.heap.size w (((w.alloc (.cells (ccells bs).toArray 33)).alloc (.cells #[.int .u8 0, .int .i16 0, .int .u8 0, .int .i16 0, .int .u8 0, .int .i16 0, .int .u8 0, .int .i16 0, .int .u8 0, .int .i16 0, .int .u8 0, .int .i16 0, .int .u8 0, .int .i16 0, .int .u8 0, .int .i16 0, .int .u8 0, .int .i16 0, .int .u8 0, .int .i16 0, .int .u8 0, .int .i16 0, .int .u8 0, .int .i16 0] 33)).alloc (.cells #[.int .u8 0, .int .i16 0] 31)) := (by repeat (first | exact Below.refl _ _ | refine Below.drew ?_ | refine Below.alloc ?_ (by simp <;> omega) _ | refine Below.setCell ?_ (by simp <;> omega) _))
  have H1 := Lib.hid h1
  have H2 := Lib.hid h2
  have H3 := Lib.hid h3
  have H4 := Lib.hid h4
  clear h1 h2 h3 h4
  go_enter Tryd.func19, Tryd.ntmps19
  go_wp2_with fail
  refine (l01Ok_any bs HW.out _ _ H1.out).mono ?_
  rintro e w1 ⟨rfl, hb1⟩
  have HB1 : Hid (Below w.heap.size w w1) := H4.out.trans (hb1.mono H4.out.size)
  have K1 : Hid (CBlk w1 w.heap.size 33 bs) := H1.out.below hb1 H1.out.lt
  have K2 : Hid (CBlk w1 (w.heap.size + 1) 33 noB) := H2.out.below hb1 H2.out.lt
  have K3 : Hid (CBlk w1 (w.heap.size + 1 + 1) 31 [(0, 0)]) := H3.out.below hb1 H3.out.lt
  have K4 : Hid (CBlk (w1.setRow (w.heap.size + 1) (ccells noB).toArray) (w.heap.size + 1 + 1) 31 [(0, 0)]) := K3.out.rowOff (by omega) _
  clear hb1 H1 H2 H3 H4
  rw [hok]
  have hx := hn
  go_wp2_with
    (first
    | (go_at_call 39; go_in)
    | (go_at_call 55; go_in)
    | (refine wpList_store_row rfl 33 (.tmp 4) (.tmp 15) rfl (w.heap.size + 1) (ccells noB).toArray rfl rfl 33 _ K2.out (size_of_crate Tryd.sizeCr _ rfl) rfl (ccells_one _) ?_)
    | (refine wpList_store_row rfl 31 (.tmp 5) (.tmp 16) rfl (w.heap.size + 1 + 1) (ccells [(0, 0)]).toArray rfl rfl 31 _ K4.out (size_of_bot Tryd.sizeBt _) rfl (ccells_one _) ?_))
  exact bodyPost_ret (v := takeV noB (0, 0) 2) (results_cct (v2 := .int .i64 2) rfl _ (by rfl) _ _ _ 33 31 _ _ (0, 0) (0, 0) _ _ rfl rfl ((CBlk.setRow (Y := noB) K2.out).rowOff (by omega) _) (K4.out.setRow (Y := [(0, 0)])) Tryd.underlying33 rfl (size_of_crate Tryd.sizeCr _ rfl) Tryd.underlying31 rfl (size_of_bot Tryd.sizeBt _)) rfl ⟨rfl, Below.setRow (Below.setRow HB1.out _ _ (by omega)) _ _ (by omega)⟩

set_option maxRecDepth 100000 in
set_option maxHeartbeats 1000000 in
theorem specTake_range1 (bs : List Bot) (hwf : WfC bs) (n : Int) (hok : okC bs = true) (hn : 11 < n) (w : World) : Calls Tryd.prog 19 #[.agg (ccells bs).toArray, .int .i64 n] w fun e w' => e = .returned (takeV noB (0, 0) 2) ∧ Below w.heap.size w w' := by
  have HW := Lib.hid hwf
  clear hwf
  have h1 : CBlk (((w.alloc (.cells (ccells bs).toArray 33)).alloc (.cells #[.int .u8 0, .int .i16 0, .int .u8 0, .int .i16 0, .int .u8 0, .int .i16 0, .int .u8 0, .int .i16 0, .int .u8 0, .int .i16 0, .int .u8 0, .int .i16 0, .int .u8 0, .int .i16 0, .int .u8 0, .int .i16 0, .int .u8 0, .int .i16 0, .int .u8 0, .int .i16 0, .int .u8 0, .int .i16 0, .int .u8 0, .int .i16 0] 33)).alloc (.cells #[.int .u8 0, .int .i16 0] 31)) w.heap.size 33 bs := ((CBlk.new w 33 bs).alloc _).alloc _
  have h2 : CBlk (((w.alloc (.cells (ccells bs).toArray 33)).alloc (.cells #[.int .u8 0, .int .i16 0, .int .u8 0, .int .i16 0, .int .u8 0, .int .i16 0, .int .u8 0, .int .i16 0, .int .u8 0, .int .i16 0, .int .u8 0, .int .i16 0, .int .u8 0, .int .i16 0, .int .u8 0, .int .i16 0, .int .u8 0, .int .i16 0, .int .u8 0, .int .i16 0, .int .u8 0, .int .i16 0, .int .u8 0, .int .i16 0] 33)).alloc (.cells #[.int .u8 0, .int .i16 0] 31)) (w.heap.size + 1) 33 noB := by
    refine CBlk.alloc ?_ _
    exact CBlk.new' (by simp) rfl
  have h3 : CBlk (((w.alloc (.cells (ccells bs).toArray 33)).alloc (.cells #[.int .u8 0, .int .i16 0, .int .u8 0, .int .i16 0, .int .u8 0, .int .i16 0, .int .u8 0, .int .i16 0, .int .u8 0, .int .i16 0, .int .u8 0, .int .i16 0, .int .u8 0, .int .i16 0, .int .u8 0, .int .i16 0, .int .u8 0, .int .i16 0, .int .u8 0, .int .i16 0, .int .u8 0, .int .i16 0, .int .u8 0, .int .i16 0] 33)).alloc (.cells #[.int .u8 0, .int .i16 0] 31)) (w.heap.size + 1 + 1) 31 [(0, 0)] := CBlk.new' (by simp) rfl
  have h4 : Below w.heap.size w (((w.alloc (.cells (ccells bs).toArray 33)).alloc (.cells #[.int .u8 0, .int .i16 0, .int .u8 0, .int .i16 0, .int .u8 0, .int .i16 0, .int .u8 0, .int .i16 0, .int .u8 0, .int .i16 0, .int .u8 0, .int .i16 0, .int .u8 0, .int .i16 0, .int .u8 0, .int .i16 0, .int .u8 0, .int .i16 0, .int .u8 0, .int .i16 0, .int .u8 0, .int .i16 0, .int .u8 0, .int .i16 0] 33)).alloc (.cells #[.int .u8 0, .int .i16 0] 31)) := (by repeat (first | exact Below.refl _ _ | refine Below.drew ?_ | refine Below.alloc ?_ (by simp <;> omega) _ | refine Below.setCell ?_ (by simp <;> omega) _))
  have H1 := Lib.hid h1
  have H2 := Lib.hid h2
  have H3 := Lib.hid h3
  have H4 := Lib.hid h4
  clear h1 h2 h3 h4
  go_enter Tryd.func19, Tryd.ntmps19
  go_wp2_with fail
  refine (l01Ok_any bs HW.out _ _ H1.out).mono ?_
  rintro e w1 ⟨rfl, hb1⟩
  have HB1 : Hid (Below w.heap.size w w1) := H4.out.trans (hb1.mono H4.out.size)
  have K1 : Hid (CBlk w1 w.heap.size 33 bs) := H1.out.below hb1 H1.out.lt
  have K2 : Hid (CBlk w1 (w.heap.size + 1) 33 noB) := H2.out.below hb1 H2.out.lt
  have K3 : Hid (CBlk w1 (w.heap.size + 1 + 1) 31 [(0, 0)]) := H3.out.below hb1 H3.out.lt
  have K4 : Hid (CBlk (w1.setRow (w.heap.size + 1) (ccells noB).toArray) (w.heap.size + 1 + 1) 31 [(0, 0)]) := K3.out.rowOff (by omega) _
  clear hb1 H1 H2 H3 H4
  rw [hok]
  have h0 : 0 ≤ n := by omega
  have hx : decide (n ≤ 11) = false := by simp; omega
  go_wp2_with
    (first
    | (go_at_call 39; go_in)
    | (go_at_call 55; go_in)
    | (refine wpList_store_row rfl 33 (.tmp 4) (.tmp 15) rfl (w.heap.size + 1) (ccells noB).toArray rfl rfl 33 _ K2.out (size_of_crate Tryd.sizeCr _ rfl) rfl (ccells_one _) ?_)
    | (refine wpList_store_row rfl 31 (.tmp 5) (.tmp 16) rfl (w.heap.size + 1 + 1) (ccells [(0, 0)]).toArray rfl rfl 31 _ K4.out (size_of_bot Tryd.sizeBt _) rfl (ccells_one _) ?_))
  exact bodyPost_ret (v := takeV noB (0, 0) 2) (results_cct (v2 := .int .i64 2) rfl _ (by rfl) _ _ _ 33 31 _ _ (0, 0) (0, 0) _ _ rfl rfl ((CBlk.setRow (Y := noB) K2.out).rowOff (by omega) _) (K4.out.setRow (Y := [(0, 0)])) Tryd.underlying33 rfl (size_of_crate Tryd.sizeCr _ rfl) Tryd.underlying31 rfl (size_of_bot Tryd.sizeBt _)) rfl ⟨rfl, Below.setRow (Below.setRow HB1.out _ _ (by omega)) _ _ (by omega)⟩

set_option maxRecDepth 100000 in
set_option maxHeartbeats 1000000 in
theorem specTake_none (bs : List Bot) (hwf : WfC bs) (k : Nat) (hk : k < 12) (x y : Int) (hbk : bs[k]? = some (x, y)) (hok : okC bs = true) (hE : eB (x, y) = true) (w : World) : Calls Tryd.prog 19 #[.agg (ccells bs).toArray, .int .i64 (k : Int)] w fun e w' => e = .returned (takeV noB (0, 0) 6) ∧ Below w.heap.size w w' := by
  have HW := Lib.hid hwf
  clear hwf
  have h1 : CBlk (((w.alloc (.cells (ccells bs).toArray 33)).alloc (.cells #[.int .u8 0, .int .i16 0, .int .u8 0, .int .i16 0, .int .u8 0, .int .i16 0, .int .u8 0, .int .i16 0, .int .u8 0, .int .i16 0, .int .u8 0, .int .i16 0, .int .u8 0, .int .i16 0, .int .u8 0, .int .i16 0, .int .u8 0, .int .i16 0, .int .u8 0, .int .i16 0, .int .u8 0, .int .i16 0, .int .u8 0, .int .i16 0] 33)).alloc (.cells #[.int .u8 0, .int .i16 0] 31)) w.heap.size 33 bs := ((CBlk.new w 33 bs).alloc _).alloc _
  have h2 : CBlk (((w.alloc (.cells (ccells bs).toArray 33)).alloc (.cells #[.int .u8 0, .int .i16 0, .int .u8 0, .int .i16 0, .int .u8 0, .int .i16 0, .int .u8 0, .int .i16 0, .int .u8 0, .int .i16 0, .int .u8 0, .int .i16 0, .int .u8 0, .int .i16 0, .int .u8 0, .int .i16 0, .int .u8 0, .int .i16 0, .int .u8 0, .int .i16 0, .int .u8 0, .int .i16 0, .int .u8 0, .int .i16 0] 33)).alloc (.cells #[.int .u8 0, .int .i16 0] 31)) (w.heap.size + 1) 33 noB := by
    refine CBlk.alloc ?_ _
    exact CBlk.new' (by simp) rfl
  have h3 : CBlk (((w.alloc (.cells (ccells bs).toArray 33)).alloc (.cells #[.int .u8 0, .int .i16 0, .int .u8 0, .int .i16 0, .int .u8 0, .int .i16 0, .int .u8 0, .int .i16 0, .int .u8 0, .int .i16 0, .int .u8 0, .int .i16 0, .int .u8 0, .int .i16 0, .int .u8 0, .int .i16 0, .int .u8 0, .int .i16 0, .int .u8 0, .int .i16 0, .int .u8 0, .int .i16 0, .int .u8 0, .int .i16 0] 33)).alloc (.cells #[.int .u8 0, .int .i16 0] 31)) (w.heap.size + 1 + 1) 31 [(0, 0)] := CBlk.new' (by simp) rfl
  have h4 : Below w.heap.size w (((w.alloc (.cells (ccells bs).toArray 33)).alloc (.cells #[.int .u8 0, .int .i16 0, .int .u8 0, .int .i16 0, .int .u8 0, .int .i16 0, .int .u8 0, .int .i16 0, .int .u8 0, .int .i16 0, .int .u8 0, .int .i16 0, .int .u8 0, .int .i16 0, .int .u8 0, .int .i16 0, .int .u8 0, .int .i16 0, .int .u8 0, .int .i16 0, .int .u8 0, .int .i16 0, .int .u8 0, .int .i16 0] 33)).alloc (.cells #[.int .u8 0, .int .i16 0] 31)) := (by repeat (first | exact Below.refl _ _ | refine Below.drew ?_ | refine Below.alloc ?_ (by simp <;> omega) _ | refine Below.setCell ?_ (by simp <;> omega) _))
  have H1 := Lib.hid h1
  have H2 := Lib.hid h2
  have H3 := Lib.hid h3
  have H4 := Lib.hid h4
  clear h1 h2 h3 h4
  go_enter Tryd.func19, Tryd.ntmps19
  go_wp2_with fail
  refine (l01Ok_any bs HW.out _ _ H1.out).mono ?_
  rintro e w1 ⟨rfl, hb1⟩
  have HB1 : Hid (Below w.heap.size w w1) := H4.out.trans (hb1.mono H4.out.size)
  have K1 : Hid (CBlk w1 w.heap.size 33 bs) := H1.out.below hb1 H1.out.lt
  have K2 : Hid (CBlk w1 (w.heap.size + 1) 33 noB) := H2.out.below hb1 H2.out.lt
  have K3 : Hid (CBlk w1 (w.heap.size + 1 + 1) 31 [(0, 0)]) := H3.out.below hb1 H3.out.lt
  have K4 : Hid (CBlk (w1.setRow (w.heap.size + 1) (ccells noB).toArray) (w.heap.size + 1 + 1) 31 [(0, 0)]) := K3.out.rowOff (by omega) _
  clear hb1 H1 H2 H3 H4
  rw [hok]
  have Hk := Lib.hid hbk
  have e1 := K1.out.kind' hbk
  have e2 := K1.out.year' hbk
  have hl0 : (0 : Int) ≤ k := by omega
  have hl1 : (k : Int) ≤ 11 := by omega
  have hl2 : (k : Int) < 12 := by omega
  clear hbk
  go_wp2_with (first
    | (go_at_call 39; go_in)
    | (go_at_call 55; go_in))
  refine (l01Free_any _ _ _).mono ?_
  rintro e w2 ⟨rfl, hb2⟩
  have q1 : Below w1.heap.size w1 (w1.alloc (.cells #[.int .u8 x, .int .i16 y] 31)) := (Below.refl _ w1).alloc (Nat.le_refl _) _
  have q2 := q1.trans (hb2.mono (by simp))
  have HB2 : Hid (Below w.heap.size w w2) := HB1.out.trans (q2.mono HB1.out.size)
  have L1 : Hid (CBlk w2 w.heap.size 33 bs) := K1.out.below q2 K1.out.lt
  have L2 : Hid (CBlk w2 (w.heap.size + 1) 33 noB) := K2.out.below q2 K2.out.lt
  have L3 : Hid (CBlk w2 (w.heap.size + 1 + 1) 31 [(0, 0)]) := K3.out.below q2 K3.out.lt
  have L7 : Hid (CBlk w2 w1.heap.size 31 [(x, y)]) := (show CBlk (w1.alloc (.cells #[.int .u8 x, .int .i16 y] 31)) w1.heap.size 31 [(x, y)] from CBlk.new' rfl rfl).below hb2 (by simp)
  have L8 : Hid (w.heap.size + 1 + 1 < w1.heap.size) := K3.out.lt
  clear hb2 q1 q2 e1 e2 K1 K2 K3 K4
  rw [hE]
  have K2 := L2
  have K4 : Hid (CBlk (w2.setRow (w.heap.size + 1) (ccells noB).toArray) (w.heap.size + 1 + 1) 31 [(0, 0)]) := L3.out.rowOff (by omega) _
  have HBx := HB1
  clear HB1
  have HB1 := HB2
  go_wp2_with
    (first
    | (refine wpList_store_row rfl 33 (.tmp 4) (.tmp 22) rfl (w.heap.size + 1) (ccells noB).toArray rfl rfl 33 _ K2.out (size_of_crate Tryd.sizeCr _ rfl) rfl (ccells_one _) ?_)
    | (refine wpList_store_row rfl 31 (.tmp 5) (.tmp 23) rfl (w.heap.size + 1 + 1) (ccells [(0, 0)]).toArray rfl rfl 31 _ K4.out (size_of_bot Tryd.sizeBt _) rfl (ccells_one _) ?_))
  exact bodyPost_ret (v := takeV noB (0, 0) 6) (results_cct (v2 := .int .i64 6) rfl _ (by rfl) _ _ _ 33 31 _ _ (0, 0) (0, 0) _ _ rfl rfl ((CBlk.setRow (Y := noB) K2.out).rowOff (by omega) _) (K4.out.setRow (Y := [(0, 0)])) Tryd.underlying33 rfl (size_of_crate Tryd.sizeCr _ rfl) Tryd.underlying31 rfl (size_of_bot Tryd.sizeBt _)) rfl ⟨rfl, Below.setRow (Below.setRow HB1.out _ _ (by omega)) _ _ (by omega)⟩
end Go.Proofs.YtcmeaiejnghpeaaDoor
