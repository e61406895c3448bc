/-
  The contract of the model's FillFrom. No condition but the crates' lengths and that their numbers fit their kinds.
-/
import Derived.Test.YtjiihdljchaeiaeDoorFa
import Derived.Test.YtjiihdljchaeiaeDoorUs
import Derived.Test.YtjiihdljchaeiaeDoorW
import Derived.Test.YtjiihdljchaeiaeDoorBt
namespace Go.Proofs.YtjiihdljchaeiaeDoor
open Go.ChangeShapes Go.WideShapes Go.ChangeAt Go.RowKit Go.Deep

theorem results_cc3 {P : Program} {fn : Func} {p q r : Tmp} {ty : TypeId} {v3 : Value} (h : fn.results = #[.cell p ty, .cell q ty, .tmp r]) (tmps : Array Value) (hr : tmps.getD r undef = v3) (w : World) (g g' : Nat) (t t' : TypeId) (cs cs' : Array Value) (fr fr' : Nat × Nat) (d : TypeDesc)
    (hp : tmps.getD p undef = .pointer (some ⟨g, 0, none⟩)) (hq : tmps.getD q undef = .pointer (some ⟨g', 0, none⟩)) (hg : w.heap[g]? = some (.cells cs t fr)) (hg' : w.heap[g']? = some (.cells cs' t' fr'))
    (hu : P.underlying ty = some d) (hd : (match d with | .struct _ | .array _ _ => true | _ => false) = true) (hi : (P.info? ty).map (·.size) = some cs.size) (hi' : (P.info? ty).map (·.size) = some cs'.size) :
    (results fn tmps).run P w = .ok (.tuple #[.agg cs, .agg cs', v3]) w := by
  subst hr
  have hp' : tmps[p]?.getD undef = .pointer (some ⟨g, 0, none⟩) := by simpa using hp
  have hq' : tmps[q]?.getD undef = .pointer (some ⟨g', 0, none⟩) := by simpa using hq
  simp [results, h, hp', hq', asAddr, run_loadVar_row w g t ty cs fr d hg hu hd hi, run_loadVar_row w g' t' ty cs' fr' d hg' hu hd hi']
/-- What FillFrom answers. -/
def fiV (X Y : List Bot) (c : Int) : Value := .tuple #[.agg (ccells X).toArray, .agg (ccells Y).toArray, .int .i64 c]
def minN (a b : List Bot) : Nat := min (usedN a eB 12).length (usedN b nE 12).length
theorem own_rdN {W : World} {base : Nat} {t : TypeId} {v : Value} {xs : List Nat} (h : W.ownsRow base t 1 v xs.length (nats xs)) :
    ∃ A c, v = .slice A xs.length c ∧ (0 < xs.length → ∃ g, A = some ⟨g, 0, none⟩ ∧ base ≤ g ∧ g < W.heap.size ∧ ∀ k, k < xs.length → W.cell? ⟨g, k, none⟩ = some (.int .i64 (xs.getD k 0 : Nat))) := by
  rcases h.2 with ⟨rfl, hn⟩ | ⟨g, cap, cur, rfl, hbg, -, -, -, -, -⟩
  · exact ⟨none, 0, by rw [hn], fun h0 => by omega⟩
  · have key : ∀ k, k < xs.length → W.cell? ⟨g, k, none⟩ = some (.int .i64 (xs.getD k 0 : Nat)) := by
      intro k hk
      rw [h.cellAt k (by omega)]
      simp [nats, hk]
    exact ⟨_, cap, rfl, fun h0 => ⟨g, rfl, hbg, block_lt_of_cell (key 0 h0), key⟩⟩
/-- But for two blocks nothing turned. -/
def But (A B : Nat) (w w' : World) : Prop := w.heap.size ≤ w'.heap.size ∧ ∀ g, g < w.heap.size → g ≠ A → g ≠ B → w'.heap[g]? = w.heap[g]?
theorem But.refl (A B : Nat) (w : World) : But A B w w := ⟨Nat.le_refl _, fun _ _ _ _ => rfl⟩
theorem But.setA {A B : Nat} {w w' : World} (h : But A B w w') (j : Nat) (u : Value) : But A B w (w'.setCell ⟨A, j, none⟩ u) := ⟨by simpa using h.1, fun g hg h1 h2 => (Below.heap_setCell w' ⟨A, j, none⟩ u g h1).trans (h.2 g hg h1 h2)⟩
theorem But.setB {A B : Nat} {w w' : World} (h : But A B w w') (j : Nat) (u : Value) : But A B w (w'.setCell ⟨B, j, none⟩ u) := ⟨by simpa using h.1, fun g hg h1 h2 => (Below.heap_setCell w' ⟨B, j, none⟩ u g h2).trans (h.2 g hg h1 h2)⟩
theorem But.drew {A B : Nat} {w w' : World} (h : But A B w w') : But A B w w'.drew := h
theorem But.cell {A B : Nat} {w w' : World} (h : But A B w w') {g k : Nat} (hg : g < w.heap.size) (h1 : g ≠ A) (h2 : g ≠ B) : w'.cell? ⟨g, k, none⟩ = w.cell? ⟨g, k, none⟩ := World.cell?_of_block (h.2 g hg h1 h2)
theorem But.cblk {A B : Nat} {w w' : World} (h : But A B w w') {g : Nat} {t : TypeId} {X : List Bot} (hX : CBlk w g t X) (h1 : g ≠ A) (h2 : g ≠ B) : CBlk w' g t X := (h.2 g hX.lt h1 h2).trans hX

set_option maxRecDepth 100000 in
set_option maxHeartbeats 2000000 in
theorem specFill_badA (a b : List Bot) (ha : WfC a) (hb : WfC b) (hok : okC a = false) (w : World) : Calls Tryd.prog 18 #[.agg (ccells a).toArray, .agg (ccells b).toArray] w fun e w' => e = .returned (fiV noB noB 1) ∧ Below w.heap.size w w' := by
  have HA := Lib.hid ha
  have HB := Lib.hid hb
  clear ha hb
  have h1 : CBlk ((((w.alloc (.cells (ccells a).toArray 31)).alloc (.cells (ccells b).toArray 31)).alloc (.cells #[.int .u8 0, .int .i16 0, .int .u8 0, .int .i16 0, .int .u8 0, .int .i16 0, .int .u8 0, .int .i16 0, .int .u8 0, .int .i16 0, .int .u8 0, .int .i16 0, .int .u8 0, .int .i16 0, .int .u8 0, .int .i16 0, .int .u8 0, .int .i16 0, .int .u8 0, .int .i16 0, .int .u8 0, .int .i16 0, .int .u8 0, .int .i16 0] 31)).alloc (.cells #[.int .u8 0, .int .i16 0, .int .u8 0, .int .i16 0, .int .u8 0, .int .i16 0, .int .u8 0, .int .i16 0, .int .u8 0, .int .i16 0, .int .u8 0, .int .i16 0, .int .u8 0, .int .i16 0, .int .u8 0, .int .i16 0, .int .u8 0, .int .i16 0, .int .u8 0, .int .i16 0, .int .u8 0, .int .i16 0, .int .u8 0, .int .i16 0] 31)) w.heap.size 31 a := (((CBlk.new w 31 a).alloc _).alloc _).alloc _
  have h2 : CBlk ((((w.alloc (.cells (ccells a).toArray 31)).alloc (.cells (ccells b).toArray 31)).alloc (.cells #[.int .u8 0, .int .i16 0, .int .u8 0, .int .i16 0, .int .u8 0, .int .i16 0, .int .u8 0, .int .i16 0, .int .u8 0, .int .i16 0, .int .u8 0, .int .i16 0, .int .u8 0, .int .i16 0, .int .u8 0, .int .i16 0, .int .u8 0, .int .i16 0, .int .u8 0, .int .i16 0, .int .u8 0, .int .i16 0, .int .u8 0, .int .i16 0] 31)).alloc (.cells #[.int .u8 0, .int .i16 0, .int .u8 0, .int .i16 0, .int .u8 0, .int .i16 0, .int .u8 0, .int .i16 0, .int .u8 0, .int .i16 0, .int .u8 0, .int .i16 0, .int .u8 0, .int .i16 0, .int .u8 0, .int .i16 0, .int .u8 0, .int .i16 0, .int .u8 0, .int .i16 0, .int .u8 0, .int .i16 0, .int .u8 0, .int .i16 0] 31)) (w.heap.size + 1) 31 b := by
    refine (CBlk.alloc ?_ _).alloc _
    exact CBlk.new' (by simp) rfl
  have h3 : CBlk ((((w.alloc (.cells (ccells a).toArray 31)).alloc (.cells (ccells b).toArray 31)).alloc (.cells #[.int .u8 0, .int .i16 0, .int .u8 0, .int .i16 0, .int .u8 0, .int .i16 0, .int .u8 0, .int .i16 0, .int .u8 0, .int .i16 0, .int .u8 0, .int .i16 0, .int .u8 0, .int .i16 0, .int .u8 0, .int .i16 0, .int .u8 0, .int .i16 0, .int .u8 0, .int .i16 0, .int .u8 0, .int .i16 0, .int .u8 0, .int .i16 0] 31)).alloc (.cells #[.int .u8 0, .int .i16 0, .int .u8 0, .int .i16 0, .int .u8 0, .int .i16 0, .int .u8 0, .int .i16 0, .int .u8 0, .int .i16 0, .int .u8 0, .int .i16 0, .int .u8 0, .int .i16 0, .int .u8 0, .int .i16 0, .int .u8 0, .int .i16 0, .int .u8 0, .int .i16 0, .int .u8 0, .int .i16 0, .int .u8 0, .int .i16 0] 31)) (w.heap.size + 1 + 1) 31 noB := by
    refine CBlk.alloc ?_ _
    exact CBlk.new' (by simp) rfl
  have h4 : CBlk ((((w.alloc (.cells (ccells a).toArray 31)).alloc (.cells (ccells b).toArray 31)).alloc (.cells #[.int .u8 0, .int .i16 0, .int .u8 0, .int .i16 0, .int .u8 0, .int .i16 0, .int .u8 0, .int .i16 0, .int .u8 0, .int .i16 0, .int .u8 0, .int .i16 0, .int .u8 0, .int .i16 0, .int .u8 0, .int .i16 0, .int .u8 0, .int .i16 0, .int .u8 0, .int .i16 0, .int .u8 0, .int .i16 0, .int .u8 0, .int .i16 0] 31)).alloc (.cells #[.int .u8 0, .int .i16 0, .int .u8 0, .int .i16 0, .int .u8 0, .int .i16 0, .int .u8 0, .int .i16 0, .int .u8 0, .int .i16 0, .int .u8 0, .int .i16 0, .int .u8 0, .int .i16 0, .int .u8 0, .int .i16 0, .int .u8 0, .int .i16 0, .int .u8 0, .int .i16 0, .int .u8 0, .int .i16 0, .int .u8 0, .int .i16 0] 31)) (w.heap.size + 1 + 1 + 1) 31 noB := CBlk.new' (by simp) rfl
  have h5 : Below w.heap.size w ((((w.alloc (.cells (ccells a).toArray 31)).alloc (.cells (ccells b).toArray 31)).alloc (.cells #[.int .u8 0, .int .i16 0, .int .u8 0, .int .i16 0, .int .u8 0, .int .i16 0, .int .u8 0, .int .i16 0, .int .u8 0, .int .i16 0, .int .u8 0, .int .i16 0, .int .u8 0, .int .i16 0, .int .u8 0, .int .i16 0, .int .u8 0, .int .i16 0, .int .u8 0, .int .i16 0, .int .u8 0, .int .i16 0, .int .u8 0, .int .i16 0] 31)).alloc (.cells #[.int .u8 0, .int .i16 0, .int .u8 0, .int .i16 0, .int .u8 0, .int .i16 0, .int .u8 0, .int .i16 0, .int .u8 0, .int .i16 0, .int .u8 0, .int .i16 0, .int .u8 0, .int .i16 0, .int .u8 0, .int .i16 0, .int .u8 0, .int .i16 0, .int .u8 0, .int .i16 0, .int .u8 0, .int .i16 0, .int .u8 0, .int .i16 0] 31)) := (by repeat (first | exact Below.refl _ _ | refine Below.drew ?_ | refine Below.alloc ?_ (by simp <;> omega) _ | refine Below.setCell ?_ (by simp <;> omega) _))
  have H1 := Lib.hid h1
  have H2 := Lib.hid h2
  have H3 := Lib.hid h3
  have H4 := Lib.hid h4
  have H5 := Lib.hid h5
  clear h1 h2 h3 h4 h5
  go_enter Tryd.func18, Tryd.ntmps18
  go_wp2_with fail
  refine (l01Ok_any a HA.out _ _ H1.out).mono ?_
  rintro e w1 ⟨rfl, hb1⟩
  have J5 : Hid (Below w.heap.size w w1) := H5.out.trans (hb1.mono H5.out.size)
  have J1 : Hid (CBlk w1 w.heap.size 31 a) := H1.out.below hb1 H1.out.lt
  have J2 : Hid (CBlk w1 (w.heap.size + 1) 31 b) := H2.out.below hb1 H2.out.lt
  have J3 : Hid (CBlk w1 (w.heap.size + 1 + 1) 31 noB) := H3.out.below hb1 H3.out.lt
  have J4 : Hid (CBlk w1 (w.heap.size + 1 + 1 + 1) 31 noB) := H4.out.below hb1 H4.out.lt
  clear hb1 H1 H2 H3 H4 H5
  have H1 := J1
  have H2 := J2
  have H3 := J3
  have H4 := J4
  have H5 := J5
  clear J1 J2 J3 J4 J5
  rw [hok]
  have M4 : Hid (CBlk (w1.setRow (w.heap.size + 1 + 1) (ccells noB).toArray) (w.heap.size + 1 + 1 + 1) 31 noB) := H4.out.rowOff (by omega) _
  go_wp2_with (first
    | (refine wpList_store_row rfl 31 (.tmp 4) (.tmp 16) rfl (w.heap.size + 1 + 1) (ccells noB).toArray rfl rfl 31 _ H3.out (size_of_crate Tryd.sizeCr _ rfl) rfl (ccells_one _) ?_)
    | (refine wpList_store_row rfl 31 (.tmp 5) (.tmp 17) rfl (w.heap.size + 1 + 1 + 1) (ccells noB).toArray rfl rfl 31 _ M4.out (size_of_crate Tryd.sizeCr _ rfl) rfl (ccells_one _) ?_))
  exact bodyPost_ret (v := fiV noB noB 1) (results_cc3 (v3 := .int .i64 1) rfl _ (by rfl) _ _ _ 31 31 _ _ (0, 0) (0, 0) _ rfl rfl ((CBlk.setRow (Y := noB) H3.out).rowOff (by omega) _) (CBlk.setRow (Y := noB) M4.out) Tryd.underlying31 rfl (size_of_crate Tryd.sizeCr _ rfl) (size_of_crate Tryd.sizeCr _ rfl)) rfl ⟨rfl, Below.setRow (Below.setRow H5.out _ _ (by omega)) _ _ (by omega)⟩

set_option maxRecDepth 100000 in
set_option maxHeartbeats 2000000 in
theorem specFill_badB (a b : List Bot) (ha : WfC a) (hb : WfC b) (hok : okC a = true) (hok2 : okC b = false) (w : World) : Calls Tryd.prog 18 #[.agg (ccells a).toArray, .agg (ccells b).toArray] w fun e w' => e = .returned (fiV noB noB 1) ∧ Below w.heap.size w w' := by
  have HA := Lib.hid ha
  have HB := Lib.hid hb
  clear ha hb
  have h1 : CBlk ((((w.alloc (.cells (ccells a).toArray 31)).alloc (.cells (ccells b).toArray 31)).alloc (.cells #[.int .u8 0, .int .i16 0, .int .u8 0, .int .i16 0, .int .u8 0, .int .i16 0, .int .u8 0, .int .i16 0, .int .u8 0, .int .i16 0, .int .u8 0, .int .i16 0, .int .u8 0, .int .i16 0, .int .u8 0, .int .i16 0, .int .u8 0, .int .i16 0, .int .u8 0, .int .i16 0, .int .u8 0, .int .i16 0, .int .u8 0, .int .i16 0] 31)).alloc (.cells #[.int .u8 0, .int .i16 0, .int .u8 0, .int .i16 0, .int .u8 0, .int .i16 0, .int .u8 0, .int .i16 0, .int .u8 0, .int .i16 0, .int .u8 0, .int .i16 0, .int .u8 0, .int .i16 0, .int .u8 0, .int .i16 0, .int .u8 0, .int .i16 0, .int .u8 0, .int .i16 0, .int .u8 0, .int .i16 0, .int .u8 0, .int .i16 0] 31)) w.heap.size 31 a := (((CBlk.new w 31 a).alloc _).alloc _).alloc _
  have h2 : CBlk ((((w.alloc (.cells (ccells a).toArray 31)).alloc (.cells (ccells b).toArray 31)).alloc (.cells #[.int .u8 0, .int .i16 0, .int .u8 0, .int .i16 0, .int .u8 0, .int .i16 0, .int .u8 0, .int .i16 0, .int .u8 0, .int .i16 0, .int .u8 0, .int .i16 0, .int .u8 0, .int .i16 0, .int .u8 0, .int .i16 0, .int .u8 0, .int .i16 0, .int .u8 0, .int .i16 0, .int .u8 0, .int .i16 0, .int .u8 0, .int .i16 0] 31)).alloc (.cells #[.int .u8 0, .int .i16 0, .int .u8 0, .int .i16 0, .int .u8 0, .int .i16 0, .int .u8 0, .int .i16 0, .int .u8 0, .int .i16 0, .int .u8 0, .int .i16 0, .int .u8 0, .int .i16 0, .int .u8 0, .int .i16 0, .int .u8 0, .int .i16 0, .int .u8 0, .int .i16 0, .int .u8 0, .int .i16 0, .int .u8 0, .int .i16 0] 31)) (w.heap.size + 1) 31 b := by
    refine (CBlk.alloc ?_ _).alloc _
    exact CBlk.new' (by simp) rfl
  have h3 : CBlk ((((w.alloc (.cells (ccells a).toArray 31)).alloc (.cells (ccells b).toArray 31)).alloc (.cells #[.int .u8 0, .int .i16 0, .int .u8 0, .int .i16 0, .int .u8 0, .int .i16 0, .int .u8 0, .int .i16 0, .int .u8 0, .int .i16 0, .int .u8 0, .int .i16 0, .int .u8 0, .int .i16 0, .int .u8 0, .int .i16 0, .int .u8 0, .int .i16 0, .int .u8 0, .int .i16 0, .int .u8 0, .int .i16 0, .int .u8 0, .int .i16 0] 31)).alloc (.cells #[.int .u8 0, .int .i16 0, .int .u8 0, .int .i16 0, .int .u8 0, .int .i16 0, .int .u8 0, .int .i16 0, .int .u8 0, .int .i16 0, .int .u8 0, .int .i16 0, .int .u8 0, .int .i16 0, .int .u8 0, .int .i16 0, .int .u8 0, .int .i16 0, .int .u8 0, .int .i16 0, .int .u8 0, .int .i16 0, .int .u8 0, .int .i16 0] 31)) (w.heap.size + 1 + 1) 31 noB := by
    refine CBlk.alloc ?_ _
    exact CBlk.new' (by simp) rfl
  have h4 : CBlk ((((w.alloc (.cells (ccells a).toArray 31)).alloc (.cells (ccells b).toArray 31)).alloc (.cells #[.int .u8 0, .int .i16 0, .int .u8 0, .int .i16 0, .int .u8 0, .int .i16 0, .int .u8 0, .int .i16 0, .int .u8 0, .int .i16 0, .int .u8 0, .int .i16 0, .int .u8 0, .int .i16 0, .int .u8 0, .int .i16 0, .int .u8 0, .int .i16 0, .int .u8 0, .int .i16 0, .int .u8 0, .int .i16 0, .int .u8 0, .int .i16 0] 31)).alloc (.cells #[.int .u8 0, .int .i16 0, .int .u8 0, .int .i16 0, .int .u8 0, .int .i16 0, .int .u8 0, .int .i16 0, .int .u8 0, .int .i16 0, .int .u8 0, .int .i16 0, .int .u8 0, .int .i16 0, .int .u8 0, .int .i16 0, .int .u8 0, .int .i16 0, .int .u8 0, .int .i16 0, .int .u8 0, .int .i16 0, .int .u8 0, .int .i16 0] 31)) (w.heap.size + 1 + 1 + 1) 31 noB := CBlk.new' (by simp) rfl
  have h5 : Below w.heap.size w ((((w.alloc (.cells (ccells a).toArray 31)).alloc (.cells (ccells b).toArray 31)).alloc (.cells #[.int .u8 0, .int .i16 0, .int .u8 0, .int .i16 0, .int .u8 0, .int .i16 0, .int .u8 0, .int .i16 0, .int .u8 0, .int .i16 0, .int .u8 0, .int .i16 0, .int .u8 0, .int .i16 0, .int .u8 0, .int .i16 0, .int .u8 0, .int .i16 0, .int .u8 0, .int .i16 0, .int .u8 0, .int .i16 0, .int .u8 0, .int .i16 0] 31)).alloc (.cells #[.int .u8 0, .int .i16 0, .int .u8 0, .int .i16 0, .int .u8 0, .int .i16 0, .int .u8 0, .int .i16 0, .int .u8 0, .int .i16 0, .int .u8 0, .int .i16 0, .int .u8 0, .int .i16 0, .int .u8 0, .int .i16 0, .int .u8 0, .int .i16 0, .int .u8 0, .int .i16 0, .int .u8 0, .int .i16 0, .int .u8 0, .int .i16 0] 31)) := (by repeat (first | exact Below.refl _ _ | refine Below.drew ?_ | refine Below.alloc ?_ (by simp <;> omega) _ | refine Below.setCell ?_ (by simp <;> omega) _))
  have H1 := Lib.hid h1
  have H2 := Lib.hid h2
  have H3 := Lib.hid h3
  have H4 := Lib.hid h4
  have H5 := Lib.hid h5
  clear h1 h2 h3 h4 h5
  go_enter Tryd.func18, Tryd.ntmps18
  go_wp2_with fail
  refine (l01Ok_any a HA.out _ _ H1.out).mono ?_
  rintro e w1 ⟨rfl, hb1⟩
  have J5 : Hid (Below w.heap.size w w1) := H5.out.trans (hb1.mono H5.out.size)
  have J1 : Hid (CBlk w1 w.heap.size 31 a) := H1.out.below hb1 H1.out.lt
  have J2 : Hid (CBlk w1 (w.heap.size + 1) 31 b) := H2.out.below hb1 H2.out.lt
  have J3 : Hid (CBlk w1 (w.heap.size + 1 + 1) 31 noB) := H3.out.below hb1 H3.out.lt
  have J4 : Hid (CBlk w1 (w.heap.size + 1 + 1 + 1) 31 noB) := H4.out.below hb1 H4.out.lt
  clear hb1 H1 H2 H3 H4 H5
  have H1 := J1
  have H2 := J2
  have H3 := J3
  have H4 := J4
  have H5 := J5
  clear J1 J2 J3 J4 J5
  rw [hok]
  go_wp2_with fail
  refine (l01Ok_any b HB.out _ _ H2.out).mono ?_
  rintro e w2 ⟨rfl, hb1⟩
  have J5 : Hid (Below w.heap.size w w2) := H5.out.trans (hb1.mono H5.out.size)
  have J1 : Hid (CBlk w2 w.heap.size 31 a) := H1.out.below hb1 H1.out.lt
  have J2 : Hid (CBlk w2 (w.heap.size + 1) 31 b) := H2.out.below hb1 H2.out.lt
  have J3 : Hid (CBlk w2 (w.heap.size + 1 + 1) 31 noB) := H3.out.below hb1 H3.out.lt
  have J4 : Hid (CBlk w2 (w.heap.size + 1 + 1 + 1) 31 noB) := H4.out.below hb1 H4.out.lt
  clear hb1 H1 H2 H3 H4 H5
  have H1 := J1
  have H2 := J2
  have H3 := J3
  have H4 := J4
  have H5 := J5
  clear J1 J2 J3 J4 J5
  rw [hok2]
  have M4 : Hid (CBlk (w2.setRow (w.heap.size + 1 + 1) (ccells noB).toArray) (w.heap.size + 1 + 1 + 1) 31 noB) := H4.out.rowOff (by omega) _
  go_wp2_with (first
    | (refine wpList_store_row rfl 31 (.tmp 4) (.tmp 16) rfl (w.heap.size + 1 + 1) (ccells noB).toArray rfl rfl 31 _ H3.out (size_of_crate Tryd.sizeCr _ rfl) rfl (ccells_one _) ?_)
    | (refine wpList_store_row rfl 31 (.tmp 5) (.tmp 17) rfl (w.heap.size + 1 + 1 + 1) (ccells noB).toArray rfl rfl 31 _ M4.out (size_of_crate Tryd.sizeCr _ rfl) rfl (ccells_one _) ?_))
  exact bodyPost_ret (v := fiV noB noB 1) (results_cc3 (v3 := .int .i64 1) rfl _ (by rfl) _ _ _ 31 31 _ _ (0, 0) (0, 0) _ rfl rfl ((CBlk.setRow (Y := noB) H3.out).rowOff (by omega) _) (CBlk.setRow (Y := noB) M4.out) Tryd.underlying31 rfl (size_of_crate Tryd.sizeCr _ rfl) (size_of_crate Tryd.sizeCr _ rfl)) rfl ⟨rfl, Below.setRow (Below.setRow H5.out _ _ (by omega)) _ _ (by omega)⟩

set_option maxRecDepth 100000 in
set_option maxHeartbeats 2000000 in
theorem specFill_ok (a b : List Bot) (ha : WfC a) (hb : WfC b) (hok : okC a = true) (hok2 : okC b = true) (w : World) : Calls Tryd.prog 18 #[.agg (ccells a).toArray, .agg (ccells b).toArray] w fun e w' => e = .returned (fiV (fillA a b (usedN a eB 12) (usedN b nE 12) (minN a b)) (fillB b (usedN b nE 12) (minN a b)) 0) ∧ Below w.heap.size w w' := by
  have HA := Lib.hid ha
  have HB := Lib.hid hb
  clear ha hb
  have h1 : CBlk ((((w.alloc (.cells (ccells a).toArray 31)).alloc (.cells (ccells b).toArray 31)).alloc (.cells #[.int .u8 0, .int .i16 0, .int .u8 0, .int .i16 0, .int .u8 0, .int .i16 0, .int .u8 0, .int .i16 0, .int .u8 0, .int .i16 0, .int .u8 0, .int .i16 0, .int .u8 0, .int .i16 0, .int .u8 0, .int .i16 0, .int .u8 0, .int .i16 0, .int .u8 0, .int .i16 0, .int .u8 0, .int .i16 0, .int .u8 0, .int .i16 0] 31)).alloc (.cells #[.int .u8 0, .int .i16 0, .int .u8 0, .int .i16 0, .int .u8 0, .int .i16 0, .int .u8 0, .int .i16 0, .int .u8 0, .int .i16 0, .int .u8 0, .int .i16 0, .int .u8 0, .int .i16 0, .int .u8 0, .int .i16 0, .int .u8 0, .int .i16 0, .int .u8 0, .int .i16 0, .int .u8 0, .int .i16 0, .int .u8 0, .int .i16 0] 31)) w.heap.size 31 a := (((CBlk.new w 31 a).alloc _).alloc _).alloc _
  have h2 : CBlk ((((w.alloc (.cells (ccells a).toArray 31)).alloc (.cells (ccells b).toArray 31)).alloc (.cells #[.int .u8 0, .int .i16 0, .int .u8 0, .int .i16 0, .int .u8 0, .int .i16 0, .int .u8 0, .int .i16 0, .int .u8 0, .int .i16 0, .int .u8 0, .int .i16 0, .int .u8 0, .int .i16 0, .int .u8 0, .int .i16 0, .int .u8 0, .int .i16 0, .int .u8 0, .int .i16 0, .int .u8 0, .int .i16 0, .int .u8 0, .int .i16 0] 31)).alloc (.cells #[.int .u8 0, .int .i16 0, .int .u8 0, .int .i16 0, .int .u8 0, .int .i16 0, .int .u8 0, .int .i16 0, .int .u8 0, .int .i16 0, .int .u8 0, .int .i16 0, .int .u8 0, .int .i16 0, .int .u8 0, .int .i16 0, .int .u8 0, .int .i16 0, .int .u8 0, .int .i16 0, .int .u8 0, .int .i16 0, .int .u8 0, .int .i16 0] 31)) (w.heap.size + 1) 31 b := by
    refine (CBlk.alloc ?_ _).alloc _
    exact CBlk.new' (by simp) rfl
  have h3 : CBlk ((((w.alloc (.cells (ccells a).toArray 31)).alloc (.cells (ccells b).toArray 31)).alloc (.cells #[.int .u8 0, .int .i16 0, .int .u8 0, .int .i16 0, .int .u8 0, .int .i16 0, .int .u8 0, .int .i16 0, .int .u8 0, .int .i16 0, .int .u8 0, .int .i16 0, .int .u8 0, .int .i16 0, .int .u8 0, .int .i16 0, .int .u8 0, .int .i16 0, .int .u8 0, .int .i16 0, .int .u8 0, .int .i16 0, .int .u8 0, .int .i16 0] 31)).alloc (.cells #[.int .u8 0, .int .i16 0, .int .u8 0, .int .i16 0, .int .u8 0, .int .i16 0, .int .u8 0, .int .i16 0, .int .u8 0, .int .i16 0, .int .u8 0, .int .i16 0, .int .u8 0, .int .i16 0, .int .u8 0, .int .i16 0, .int .u8 0, .int .i16 0, .int .u8 0, .int .i16 0, .int .u8 0, .int .i16 0, .int .u8 0, .int .i16 0] 31)) (w.heap.size + 1 + 1) 31 noB := by
    refine CBlk.alloc ?_ _
    exact CBlk.new' (by simp) rfl
  have h4 : CBlk ((((w.alloc (.cells (ccells a).toArray 31)).alloc (.cells (ccells b).toArray 31)).alloc (.cells #[.int .u8 0, .int .i16 0, .int .u8 0, .int .i16 0, .int .u8 0, .int .i16 0, .int .u8 0, .int .i16 0, .int .u8 0, .int .i16 0, .int .u8 0, .int .i16 0, .int .u8 0, .int .i16 0, .int .u8 0, .int .i16 0, .int .u8 0, .int .i16 0, .int .u8 0, .int .i16 0, .int .u8 0, .int .i16 0, .int .u8 0, .int .i16 0] 31)).alloc (.cells #[.int .u8 0, .int .i16 0, .int .u8 0, .int .i16 0, .int .u8 0, .int .i16 0, .int .u8 0, .int .i16 0, .int .u8 0, .int .i16 0, .int .u8 0, .int .i16 0, .int .u8 0, .int .i16 0, .int .u8 0, .int .i16 0, .int .u8 0, .int .i16 0, .int .u8 0, .int .i16 0, .int .u8 0, .int .i16 0, .int .u8 0, .int .i16 0] 31)) (w.heap.size + 1 + 1 + 1) 31 noB := CBlk.new' (by simp) rfl
  have h5 : Below w.heap.size w ((((w.alloc (.cells (ccells a).toArray 31)).alloc (.cells (ccells b).toArray 31)).alloc (.cells #[.int .u8 0, .int .i16 0, .int .u8 0, .int .i16 0, .int .u8 0, .int .i16 0, .int .u8 0, .int .i16 0, .int .u8 0, .int .i16 0, .int .u8 0, .int .i16 0, .int .u8 0, .int .i16 0, .int .u8 0, .int .i16 0, .int .u8 0, .int .i16 0, .int .u8 0, .int .i16 0, .int .u8 0, .int .i16 0, .int .u8 0, .int .i16 0] 31)).alloc (.cells #[.int .u8 0, .int .i16 0, .int .u8 0, .int .i16 0, .int .u8 0, .int .i16 0, .int .u8 0, .int .i16 0, .int .u8 0, .int .i16 0, .int .u8 0, .int .i16 0, .int .u8 0, .int .i16 0, .int .u8 0, .int .i16 0, .int .u8 0, .int .i16 0, .int .u8 0, .int .i16 0, .int .u8 0, .int .i16 0, .int .u8 0, .int .i16 0] 31)) := (by repeat (first | exact Below.refl _ _ | refine Below.drew ?_ | refine Below.alloc ?_ (by simp <;> omega) _ | refine Below.setCell ?_ (by simp <;> omega) _))
  have H1 := Lib.hid h1
  have H2 := Lib.hid h2
  have H3 := Lib.hid h3
  have H4 := Lib.hid h4
  have H5 := Lib.hid h5
  clear h1 h2 h3 h4 h5
  go_enter Tryd.func18, Tryd.ntmps18
  go_wp2_with fail
  refine (l01Ok_any a HA.out _ _ H1.out).mono ?_
  rintro e w1 ⟨rfl, hb1⟩
  have J5 : Hid (Below w.heap.size w w1) := H5.out.trans (hb1.mono H5.out.size)
  have J1 : Hid (CBlk w1 w.heap.size 31 a) := H1.out.below hb1 H1.out.lt
  have J2 : Hid (CBlk w1 (w.heap.size + 1) 31 b) := H2.out.below hb1 H2.out.lt
  have J3 : Hid (CBlk w1 (w.heap.size + 1 + 1) 31 noB) := H3.out.below hb1 H3.out.lt
  have J4 : Hid (CBlk w1 (w.heap.size + 1 + 1 + 1) 31 noB) := H4.out.below hb1 H4.out.lt
  clear hb1 H1 H2 H3 H4 H5
  have H1 := J1
  have H2 := J2
  have H3 := J3
  have H4 := J4
  have H5 := J5
  clear J1 J2 J3 J4 J5
  rw [hok]
  go_wp2_with fail
  refine (l01Ok_any b HB.out _ _ H2.out).mono ?_
  rintro e w2 ⟨rfl, hb1⟩
  have J5 : Hid (Below w.heap.size w w2) := H5.out.trans (hb1.mono H5.out.size)
  have J1 : Hid (CBlk w2 w.heap.size 31 a) := H1.out.below hb1 H1.out.lt
  have J2 : Hid (CBlk w2 (w.heap.size + 1) 31 b) := H2.out.below hb1 H2.out.lt
  have J3 : Hid (CBlk w2 (w.heap.size + 1 + 1) 31 noB) := H3.out.below hb1 H3.out.lt
  have J4 : Hid (CBlk w2 (w.heap.size + 1 + 1 + 1) 31 noB) := H4.out.below hb1 H4.out.lt
  clear hb1 H1 H2 H3 H4 H5
  have H1 := J1
  have H2 := J2
  have H3 := J3
  have H4 := J4
  have H5 := J5
  clear J1 J2 J3 J4 J5
  rw [hok2]
  clear hok hok2
  go_wp2_with fail
  refine (l01Empty_any a HA.out _ _ H1.out).mono ?_
  rintro e w3 ⟨v1, rfl, hr1, hb1⟩
  have J5 : Hid (Below w.heap.size w w3) := H5.out.trans (hb1.mono H5.out.size)
  have J1 : Hid (CBlk w3 w.heap.size 31 a) := H1.out.below hb1 H1.out.lt
  have J2 : Hid (CBlk w3 (w.heap.size + 1) 31 b) := H2.out.below hb1 H2.out.lt
  have J3 : Hid (CBlk w3 (w.heap.size + 1 + 1) 31 noB) := H3.out.below hb1 H3.out.lt
  have J4 : Hid (CBlk w3 (w.heap.size + 1 + 1 + 1) 31 noB) := H4.out.below hb1 H4.out.lt
  obtain ⟨A1, c1, rfl, hd1⟩ := own_rdN hr1
  have HD1 := Lib.hid hd1
  have hsz2 : w.heap.size + 4 ≤ w2.heap.size := by have := H4.out.lt; omega
  clear hb1 hr1 hd1 H1 H2 H3 H4 H5
  have H1 := J1
  have H2 := J2
  have H3 := J3
  have H4 := J4
  have H5 := J5
  clear J1 J2 J3 J4 J5
  go_wp2_with fail
  refine (l01Used_any b HB.out _ _ H2.out).mono ?_
  rintro e w4 ⟨v2, rfl, hr2, hb1⟩
  have J5 : Hid (Below w.heap.size w w4) := H5.out.trans (hb1.mono H5.out.size)
  have J1 : Hid (CBlk w4 w.heap.size 31 a) := H1.out.below hb1 H1.out.lt
  have J2 : Hid (CBlk w4 (w.heap.size + 1) 31 b) := H2.out.below hb1 H2.out.lt
  have J3 : Hid (CBlk w4 (w.heap.size + 1 + 1) 31 noB) := H3.out.below hb1 H3.out.lt
  have J4 : Hid (CBlk w4 (w.heap.size + 1 + 1 + 1) 31 noB) := H4.out.below hb1 H4.out.lt
  have e0 : (fun b : Bot => !eB b) = nE := rfl
  rw [e0] at hr2
  obtain ⟨A2, c2, rfl, hd2⟩ := own_rdN hr2
  have hsz3 : w.heap.size + 4 ≤ w3.heap.size := by have := H4.out.lt; omega
  have E1 : (0 < (usedN a eB 12).length → ∃ g, A1 = some ⟨g, 0, none⟩ ∧ w2.heap.size ≤ g ∧ g < w4.heap.size ∧ ∀ k, k < (usedN a eB 12).length → w4.cell? ⟨g, k, none⟩ = some (.int .i64 ((usedN a eB 12).getD k 0 : Nat))) := fun h0 => by
    obtain ⟨g, q1, q2, q3, q4⟩ := HD1.out h0
    exact ⟨g, q1, q2, Nat.lt_of_lt_of_le q3 hb1.size, fun k hk => (hb1.cell (p := ⟨g, k, none⟩) q3).trans (q4 k hk)⟩
  clear hb1 hr2 e0 HD1 H1 H2 H3 H4 H5
  have H1 := J1
  have H2 := J2
  have H3 := J3
  have H4 := J4
  have H5 := J5
  clear J1 J2 J3 J4 J5
  obtain ⟨fr, hfr⟩ : ∃ fr, usedN a eB 12 = fr := ⟨_, rfl⟩
  obtain ⟨us, hus⟩ : ∃ us, usedN b nE 12 = us := ⟨_, rfl⟩
  have hfl : fr.length ≤ 12 := by rw [← hfr]; exact usedN_length _ _ _
  have hul : us.length ≤ 12 := by rw [← hus]; exact usedN_length _ _ _
  have FG : Hid (∀ k, k < fr.length → fr.getD k 0 < 12) := fun k hk => by rw [← hfr] at hk ⊢; exact (usedN_getD hk).1
  have UG : Hid (∀ k, k < us.length → us.getD k 0 < 12) := fun k hk => by rw [← hus] at hk ⊢; exact (usedN_getD hk).1
  have UN : Hid (∀ k, k < us.length → (fillB b us k)[us.getD k 0]? = some (b.getD (us.getD k 0) (0, 0))) := fun k hk => by rw [← hus] at hk ⊢; exact fillB_next hk
  have MN : Hid (minN a b = min fr.length us.length) := by show minN a b = _; rw [← hfr, ← hus]; rfl
  rw [hfr] at E1 ⊢
  rw [hus] at hd2 ⊢
  have HD2 := Lib.hid hd2
  have E2 := Lib.hid E1
  clear hd2 E1
  have E1 := E2
  have HFR := Lib.hid hfr
  have HUS := Lib.hid hus
  clear hfr hus
  obtain ⟨nf, hnf⟩ : ∃ n, fr.length = n := ⟨_, rfl⟩
  obtain ⟨nu, hnu⟩ : ∃ n, us.length = n := ⟨_, rfl⟩
  have NF := Lib.hid hnf
  have NU := Lib.hid hnu
  rw [hnf] at hfl ⊢
  rw [hnu] at hul ⊢
  clear hnf hnu
  go_wp2_with fail
  go_loopw [9] (fun i wr => ∃ k : Nat, k ≤ nf ∧ k ≤ nu ∧ i = .int .i64 k ∧ CBlk wr w.heap.size 31 (fillA a b fr us k) ∧ CBlk wr (w.heap.size + 1) 31 (fillB b us k) ∧ But w.heap.size (w.heap.size + 1) w4 wr ∧ Below w.heap.size w wr) (fun i _ => 12 - (intOf i).toNat)
  case atStart => exact ⟨0, by omega, by omega, rfl, H1.out, H2.out, But.refl _ _ _, H5.out⟩
  case round =>
    obtain ⟨k, hk1, hk2, rfl, q1, q2, q3, q4⟩ := hrel
    have Q1 := Lib.hid q1
    have Q2 := Lib.hid q2
    have Q3 := Lib.hid q3
    have Q4 := Lib.hid q4
    clear q1 q2 q3 q4
    by_cases hlt : k < nf ∧ k < nu
    · obtain ⟨l1, l2⟩ := hlt
      obtain ⟨g1, rfl, g1a, g1b, g1c⟩ := E1.out (by rw [NF.out]; omega)
      obtain ⟨g2, rfl, g2a, g2b, g2c⟩ := HD2.out (by rw [NU.out]; omega)
      have cf := (Q3.out.cell (k := k) g1b (by omega) (by omega)).trans (g1c k (by rw [NF.out]; exact l1))
      have cu := (Q3.out.cell (k := k) g2b (by omega) (by omega)).trans (g2c k (by rw [NU.out]; exact l2))
      have hf12 := FG.out k (by rw [NF.out]; exact l1)
      have hu12 := UG.out k (by rw [NU.out]; exact l2)
      have hun := UN.out k (by rw [NU.out]; exact l2)
      have SA : Hid (fillA a b fr us (k + 1) = (fillA a b fr us k).set (fr.getD k 0) (b.getD (us.getD k 0) (0, 0))) := rfl
      have SB : Hid (fillB b us (k + 1) = (fillB b us k).set (us.getD k 0) (0, 0)) := rfl
      have WA := Lib.hid (fillA_wf HA.out HB.out fr us k)
      have WB := Lib.hid (fillB_wf HB.out us k)
      clear g1c g2c
      obtain ⟨f, hf⟩ : ∃ f, fr.getD k 0 = f := ⟨_, rfl⟩
      obtain ⟨u, hu⟩ : ∃ u, us.getD k 0 = u := ⟨_, rfl⟩
      rw [hf] at cf hf12 SA
      rw [hu] at cu hu12 hun SA SB
      clear hf hu
      obtain ⟨⟨x, y⟩, hxy⟩ : ∃ p, b.getD u (0, 0) = p := ⟨_, rfl⟩
      rw [hxy] at hun SA
      clear hxy
      obtain ⟨xa, ya, haf, _, _⟩ := WA.out.at_ hf12
      have b1 := Q2.out.kind' hun
      have b2 := Q2.out.year' hun
      have b3 := Q2.out.frozen (u * 2)
      have b4 := Q2.out.frozen (u * 2 + 1)
      have a1 := Q1.out.kind' haf
      have a2 := Q1.out.year' haf
      have a3 := Q1.out.frozen (f * 2)
      have a4 := Q1.out.frozen (f * 2 + 1)
      have N1 : Hid (CBlk ((wr.setCell ⟨w.heap.size, f * 2, none⟩ (.int .u8 x)).setCell ⟨w.heap.size, f * 2 + 1, none⟩ (.int .i16 y)) w.heap.size 31 (fillA a b fr us (k + 1))) := by
        have := CBlk.set Q1.out f (by rw [WA.out.1]; exact hf12) (x, y)
        rw [SA.out]; exact this
      have N2 : Hid (CBlk ((wr.setCell ⟨w.heap.size, f * 2, none⟩ (.int .u8 x)).setCell ⟨w.heap.size, f * 2 + 1, none⟩ (.int .i16 y)) (w.heap.size + 1) 31 (fillB b us k)) := (Q2.out.other (by omega) _ _).other (by omega) _ _
      have N3 : Hid (But w.heap.size (w.heap.size + 1) w4 ((wr.setCell ⟨w.heap.size, f * 2, none⟩ (.int .u8 x)).setCell ⟨w.heap.size, f * 2 + 1, none⟩ (.int .i16 y))) := (Q3.out.setA _ _).setA _ _
      have N4 : Hid (Below w.heap.size w ((wr.setCell ⟨w.heap.size, f * 2, none⟩ (.int .u8 x)).setCell ⟨w.heap.size, f * 2 + 1, none⟩ (.int .i16 y))) := (Q4.out.setCell (p := ⟨w.heap.size, f * 2, none⟩) (Nat.le_refl _) _).setCell (p := ⟨w.heap.size, f * 2 + 1, none⟩) (Nat.le_refl _) _
      have UN' := Lib.hid hun
      have hf0 : (0 : Int) ≤ f := by omega
      have hf1 : (f : Int) < 12 := by omega
      have hu0 : (0 : Int) ≤ u := by omega
      have hu1 : (u : Int) < 12 := by omega
      have hk0 : (0 : Int) ≤ k := by omega
      have hk8 : (k : Int) < nf := by omega
      have hk9 : (k : Int) < nu := by omega
      clear hun haf FG UG UN SA
      go_wp2_with fail
      go_region
      have M1 : CBlk ((wr.setCell ⟨w.heap.size, f * 2, none⟩ (.int .u8 x)).setCell ⟨w.heap.size, f * 2 + 1, none⟩ (.int .i16 y)).drew w.heap.size 31 (fillA a b fr us (k + 1)) := N1.out
      have M2 : CBlk ((wr.setCell ⟨w.heap.size, f * 2, none⟩ (.int .u8 x)).setCell ⟨w.heap.size, f * 2 + 1, none⟩ (.int .i16 y)).drew (w.heap.size + 1) 31 (fillB b us k) := N2.out
      have M3 : But w.heap.size (w.heap.size + 1) w4 ((wr.setCell ⟨w.heap.size, f * 2, none⟩ (.int .u8 x)).setCell ⟨w.heap.size, f * 2 + 1, none⟩ (.int .i16 y)).drew := N3.out
      have M4 : Below w.heap.size w ((wr.setCell ⟨w.heap.size, f * 2, none⟩ (.int .u8 x)).setCell ⟨w.heap.size, f * 2 + 1, none⟩ (.int .i16 y)).drew := N4.out.drew
      have cu4 : w4.cell? ⟨g2, k, none⟩ = some (.int .i64 (u : Nat)) := (Q3.out.cell (k := k) g2b (by omega) (by omega)).symm.trans cu
      obtain ⟨W5, hW5⟩ : ∃ W5, ((wr.setCell ⟨w.heap.size, f * 2, none⟩ (.int .u8 x)).setCell ⟨w.heap.size, f * 2 + 1, none⟩ (.int .i16 y)).drew = W5 := ⟨_, rfl⟩
      rw [hW5] at M1 M2 M3 M4 ⊢
      clear hW5 N1 N2 N3 N4 cf cu b1 b2 b3 b4 a1 a2 a3 a4
      have cu := (M3.cell (k := k) g2b (by omega) (by omega)).trans cu4
      have b1 := M2.kind' UN'.out
      have b2 := M2.year' UN'.out
      have b3 := M2.frozen (u * 2)
      have b4 := M2.frozen (u * 2 + 1)
      have N1 : Hid (CBlk ((W5.setCell ⟨w.heap.size + 1, u * 2, none⟩ (.int .u8 0)).setCell ⟨w.heap.size + 1, u * 2 + 1, none⟩ (.int .i16 0)) w.heap.size 31 (fillA a b fr us (k + 1))) := (M1.other (by omega) _ _).other (by omega) _ _
      have N2 : Hid (CBlk ((W5.setCell ⟨w.heap.size + 1, u * 2, none⟩ (.int .u8 0)).setCell ⟨w.heap.size + 1, u * 2 + 1, none⟩ (.int .i16 0)) (w.heap.size + 1) 31 (fillB b us (k + 1))) := by
        have := CBlk.set M2 u (by rw [WB.out.1]; exact hu12) (0, 0)
        rw [SB.out]; exact this
      have N3 : Hid (But w.heap.size (w.heap.size + 1) w4 ((W5.setCell ⟨w.heap.size + 1, u * 2, none⟩ (.int .u8 0)).setCell ⟨w.heap.size + 1, u * 2 + 1, none⟩ (.int .i16 0))) := (M3.setB _ _).setB _ _
      have N4 : Hid (Below w.heap.size w ((W5.setCell ⟨w.heap.size + 1, u * 2, none⟩ (.int .u8 0)).setCell ⟨w.heap.size + 1, u * 2 + 1, none⟩ (.int .i16 0))) := (M4.setCell (p := ⟨w.heap.size + 1, u * 2, none⟩) (by show w.heap.size ≤ w.heap.size + 1; omega) _).setCell (p := ⟨w.heap.size + 1, u * 2 + 1, none⟩) (by show w.heap.size ≤ w.heap.size + 1; omega) _
      clear M1 M2 M3 M4 cu4 Q1 Q2 Q3 Q4 H1 H2 H5 MN E1 E2 HD2
      go_wp2
      go_roundw
      case rel => exact ⟨k + 1, by omega, by omega, by go_num, N1.out, N2.out, N3.out, N4.out⟩
      case measure => simp [intOf]; omega
    · by_cases l1 : k < nf
      · have l2 : ¬ k < nu := fun h => hlt ⟨l1, h⟩
        have hk8 : (k : Int) < nf := by omega
        have hk9 : ¬ (k : Int) < nu := by omega
        have hkk : k = nu := by omega
        have HM : Hid (minN a b = k) := by show minN a b = k; rw [MN.out, NF.out, NU.out]; omega
        have C3 : Hid (CBlk wr (w.heap.size + 1 + 1) 31 noB) := Q3.out.cblk H3.out (by omega) (by omega)
        have C4 : Hid (CBlk wr (w.heap.size + 1 + 1 + 1) 31 noB) := Q3.out.cblk H4.out (by omega) (by omega)
        have hwa := (fillA_wf HA.out HB.out fr us k).1
        have hwb := (fillB_wf HB.out us k).1
        have MM : Hid (fillA a b fr us (minN a b) = fillA a b fr us k ∧ fillB b us (minN a b) = fillB b us k) := by rw [HM.out]; exact ⟨rfl, rfl⟩
        obtain ⟨X, hX⟩ : ∃ X, fillA a b fr us k = X := ⟨_, rfl⟩
        obtain ⟨Y, hY⟩ : ∃ Y, fillB b us k = Y := ⟨_, rfl⟩
        have R1 : Hid (CBlk wr w.heap.size 31 X) := by rw [← hX]; exact Q1.out
        have R2 : Hid (CBlk wr (w.heap.size + 1) 31 Y) := by rw [← hY]; exact Q2.out
        have MX : Hid (fillA a b (usedN a eB 12) (usedN b nE 12) (minN a b) = X ∧ fillB b (usedN b nE 12) (minN a b) = Y) := by rw [← hX, ← hY, HFR.out, HUS.out]; exact MM.out
        rw [hX] at hwa
        rw [hY] at hwb
        have LX := Lib.hid hwa
        have LY := Lib.hid hwb
        clear hX hY hwa hwb Q1 Q2 Q3 MM HM H1 H2 H3 H4 H5 E1 E2 HD2 FG UG UN MN
        go_wp2_with fail
        refine wp_region_held_drew (S := fun w' => CBlk w' w.heap.size 31 X ∧ CBlk w' (w.heap.size + 1) 31 Y) (by kernel_rfl) ⟨R1.out, R2.out⟩ (fun hHeld => ?_)
        refine' wpAnyH_take (i := 0) (v := _) rfl (by kernel_rfl) (by kernel_rfl) (by kernel_rfl) (fun _ _ _ h => h) (yieldsIf_load_mid (by rfl) 31 (.tmp 2) rfl w.heap.size 0 rfl (ccells X) _ (fun w h => CBlk.range h.1) Tryd.underlying31 rfl (size_of_crate Tryd.sizeCr _ LX.out)) (by assumption) ?_
        try simp only [Act.put, List.getElem_toArray, List.getElem_cons_zero, List.getElem_cons_succ, List.setIfInBounds_toArray, List.set_cons_zero, List.set_cons_succ]
        refine' wpAnyH_take (i := 1) (v := _) rfl (by kernel_rfl) (by kernel_rfl) (by kernel_rfl) (fun _ _ _ h => h) (yieldsIf_load_mid (by rfl) 31 (.tmp 3) rfl (w.heap.size + 1) 0 rfl (ccells Y) _ (fun w h => CBlk.range h.2) Tryd.underlying31 rfl (size_of_crate Tryd.sizeCr _ LY.out)) (by assumption) ?_
        try simp only [Act.put, List.getElem_toArray, List.getElem_cons_zero, List.getElem_cons_succ, List.setIfInBounds_toArray, List.set_cons_zero, List.set_cons_succ]
        refine wpAnyH_ready (rs := [2]) (by kernel_rfl) (by simp) ?_
        refine AllReadyH.cons rfl (fun K hK => ?_) AllReadyH.nil
        refine if_wanted rfl (wp_store_row 31 (.tmp 4) (.tmp 49) rfl (w.heap.size + 1 + 1) (ccells X).toArray rfl rfl 31 _ (C3.out.drew) (size_of_crate Tryd.sizeCr _ LX.out) (by show (ccells noB).toArray.size = _; rw [ccells_size _ LX.out]; rfl) (ccells_one _) ?_)
        have S1 : Hid (CBlk (wr.drew.setRow (w.heap.size + 1 + 1) (ccells X).toArray) w.heap.size 31 X) := (R1.out.drew).rowOff (by omega) _
        have S2 : Hid (CBlk (wr.drew.setRow (w.heap.size + 1 + 1) (ccells X).toArray) (w.heap.size + 1) 31 Y) := (R2.out.drew).rowOff (by omega) _
        have S3 : Hid (CBlk (wr.drew.setRow (w.heap.size + 1 + 1) (ccells X).toArray) (w.heap.size + 1 + 1) 31 X) := CBlk.setRow (Y := X) C3.out.drew
        have S4 : Hid (CBlk (wr.drew.setRow (w.heap.size + 1 + 1) (ccells X).toArray) (w.heap.size + 1 + 1 + 1) 31 noB) := (C4.out.drew).rowOff (by omega) _
        have S5 : Hid (Below w.heap.size w (wr.drew.setRow (w.heap.size + 1 + 1) (ccells X).toArray)) := Below.setRow Q4.out.drew _ _ (by omega)
        refine hK.out _ _ ⟨S1.out, S2.out⟩ (fun hHeld => ?_)
        clear hK K
        try simp only [Act.put, List.getElem_toArray, List.getElem_cons_zero, List.getElem_cons_succ, List.setIfInBounds_toArray, List.set_cons_zero, List.set_cons_succ]
        refine wpAnyH_ready (rs := [3]) (by kernel_rfl) (by simp) ?_
        refine AllReadyH.cons rfl (fun K hK => ?_) AllReadyH.nil
        refine if_wanted rfl (wp_store_row 31 (.tmp 5) (.tmp 50) rfl (w.heap.size + 1 + 1 + 1) (ccells Y).toArray rfl rfl 31 _ S4.out (size_of_crate Tryd.sizeCr _ LY.out) (by show (ccells noB).toArray.size = _; rw [ccells_size _ LY.out]; rfl) (ccells_one _) ?_)
        refine hK.out _ _ ⟨S1.out.rowOff (by omega) _, S2.out.rowOff (by omega) _⟩ (fun hHeld => ?_)
        clear hK K
        try simp only [Act.put, List.getElem_toArray, List.getElem_cons_zero, List.getElem_cons_succ, List.setIfInBounds_toArray, List.set_cons_zero, List.set_cons_succ]
        refine wpAnyH_ready (rs := [4]) (by kernel_rfl) (by simp) ?_
        refine AllReadyH.cons rfl (fun K hK => ?_) AllReadyH.nil
        refine if_wanted rfl ?_
        refine wp_assign0 rfl rfl ?_
        refine hK.out _ _ hHeld (fun hHeld => ?_)
        clear hK K
        refine wpAnyH_done (by kernel_rfl) ?_ _
        try simp only [Act.put, List.getElem_toArray, List.getElem_cons_zero, List.getElem_cons_succ, List.setIfInBounds_toArray, List.set_cons_zero, List.set_cons_succ]
        have hk3 := S3.out.rowOff (B' := w.heap.size + 1 + 1 + 1) (by omega) (ccells Y).toArray
        have hk4 := CBlk.setRow (Y := Y) S4.out
        have hk5 := Below.setRow S5.out (w.heap.size + 1 + 1 + 1) (ccells Y).toArray (by omega)
        clear hHeld
        go_wp2
        exact bodyPost_ret (v := fiV X Y 0) (results_cc3 (v3 := .int .i64 0) rfl _ (by rfl) _ _ _ 31 31 _ _ (0, 0) (0, 0) _ rfl rfl hk3 hk4 Tryd.underlying31 rfl (size_of_crate Tryd.sizeCr _ LX.out) (size_of_crate Tryd.sizeCr _ LY.out)) rfl ⟨by rw [MX.out.1, MX.out.2], hk5⟩
      · have hk8 : ¬ (k : Int) < nf := by omega
        have hkk : k = nf := by omega
        have HM : Hid (minN a b = k) := by show minN a b = k; rw [MN.out, NF.out, NU.out]; omega
        have C3 : Hid (CBlk wr (w.heap.size + 1 + 1) 31 noB) := Q3.out.cblk H3.out (by omega) (by omega)
        have C4 : Hid (CBlk wr (w.heap.size + 1 + 1 + 1) 31 noB) := Q3.out.cblk H4.out (by omega) (by omega)
        have hwa := (fillA_wf HA.out HB.out fr us k).1
        have hwb := (fillB_wf HB.out us k).1
        have MM : Hid (fillA a b fr us (minN a b) = fillA a b fr us k ∧ fillB b us (minN a b) = fillB b us k) := by rw [HM.out]; exact ⟨rfl, rfl⟩
        obtain ⟨X, hX⟩ : ∃ X, fillA a b fr us k = X := ⟨_, rfl⟩
        obtain ⟨Y, hY⟩ : ∃ Y, fillB b us k = Y := ⟨_, rfl⟩
        have R1 : Hid (CBlk wr w.heap.size 31 X) := by rw [← hX]; exact Q1.out
        have R2 : Hid (CBlk wr (w.heap.size + 1) 31 Y) := by rw [← hY]; exact Q2.out
        have MX : Hid (fillA a b (usedN a eB 12) (usedN b nE 12) (minN a b) = X ∧ fillB b (usedN b nE 12) (minN a b) = Y) := by rw [← hX, ← hY, HFR.out, HUS.out]; exact MM.out
        rw [hX] at hwa
        rw [hY] at hwb
        have LX := Lib.hid hwa
        have LY := Lib.hid hwb
        clear hX hY hwa hwb Q1 Q2 Q3 MM HM H1 H2 H3 H4 H5 E1 E2 HD2 FG UG UN MN
        go_wp2_with fail
        refine wp_region_held_drew (S := fun w' => CBlk w' w.heap.size 31 X ∧ CBlk w' (w.heap.size + 1) 31 Y) (by kernel_rfl) ⟨R1.out, R2.out⟩ (fun hHeld => ?_)
        refine' wpAnyH_take (i := 0) (v := _) rfl (by kernel_rfl) (by kernel_rfl) (by kernel_rfl) (fun _ _ _ h => h) (yieldsIf_load_mid (by rfl) 31 (.tmp 2) rfl w.heap.size 0 rfl (ccells X) _ (fun w h => CBlk.range h.1) Tryd.underlying31 rfl (size_of_crate Tryd.sizeCr _ LX.out)) (by assumption) ?_
        try simp only [Act.put, List.getElem_toArray, List.getElem_cons_zero, List.getElem_cons_succ, List.setIfInBounds_toArray, List.set_cons_zero, List.set_cons_succ]
        refine' wpAnyH_take (i := 1) (v := _) rfl (by kernel_rfl) (by kernel_rfl) (by kernel_rfl) (fun _ _ _ h => h) (yieldsIf_load_mid (by rfl) 31 (.tmp 3) rfl (w.heap.size + 1) 0 rfl (ccells Y) _ (fun w h => CBlk.range h.2) Tryd.underlying31 rfl (size_of_crate Tryd.sizeCr _ LY.out)) (by assumption) ?_
        try simp only [Act.put, List.getElem_toArray, List.getElem_cons_zero, List.getElem_cons_succ, List.setIfInBounds_toArray, List.set_cons_zero, List.set_cons_succ]
        refine wpAnyH_ready (rs := [2]) (by kernel_rfl) (by simp) ?_
        refine AllReadyH.cons rfl (fun K hK => ?_) AllReadyH.nil
        refine if_wanted rfl (wp_store_row 31 (.tmp 4) (.tmp 49) rfl (w.heap.size + 1 + 1) (ccells X).toArray rfl rfl 31 _ (C3.out.drew) (size_of_crate Tryd.sizeCr _ LX.out) (by show (ccells noB).toArray.size = _; rw [ccells_size _ LX.out]; rfl) (ccells_one _) ?_)
        have S1 : Hid (CBlk (wr.drew.setRow (w.heap.size + 1 + 1) (ccells X).toArray) w.heap.size 31 X) := (R1.out.drew).rowOff (by omega) _
        have S2 : Hid (CBlk (wr.drew.setRow (w.heap.size + 1 + 1) (ccells X).toArray) (w.heap.size + 1) 31 Y) := (R2.out.drew).rowOff (by omega) _
        have S3 : Hid (CBlk (wr.drew.setRow (w.heap.size + 1 + 1) (ccells X).toArray) (w.heap.size + 1 + 1) 31 X) := CBlk.setRow (Y := X) C3.out.drew
        have S4 : Hid (CBlk (wr.drew.setRow (w.heap.size + 1 + 1) (ccells X).toArray) (w.heap.size + 1 + 1 + 1) 31 noB) := (C4.out.drew).rowOff (by omega) _
        have S5 : Hid (Below w.heap.size w (wr.drew.setRow (w.heap.size + 1 + 1) (ccells X).toArray)) := Below.setRow Q4.out.drew _ _ (by omega)
        refine hK.out _ _ ⟨S1.out, S2.out⟩ (fun hHeld => ?_)
        clear hK K
        try simp only [Act.put, List.getElem_toArray, List.getElem_cons_zero, List.getElem_cons_succ, List.setIfInBounds_toArray, List.set_cons_zero, List.set_cons_succ]
        refine wpAnyH_ready (rs := [3]) (by kernel_rfl) (by simp) ?_
        refine AllReadyH.cons rfl (fun K hK => ?_) AllReadyH.nil
        refine if_wanted rfl (wp_store_row 31 (.tmp 5) (.tmp 50) rfl (w.heap.size + 1 + 1 + 1) (ccells Y).toArray rfl rfl 31 _ S4.out (size_of_crate Tryd.sizeCr _ LY.out) (by show (ccells noB).toArray.size = _; rw [ccells_size _ LY.out]; rfl) (ccells_one _) ?_)
        refine hK.out _ _ ⟨S1.out.rowOff (by omega) _, S2.out.rowOff (by omega) _⟩ (fun hHeld => ?_)
        clear hK K
        try simp only [Act.put, List.getElem_toArray, List.getElem_cons_zero, List.getElem_cons_succ, List.setIfInBounds_toArray, List.set_cons_zero, List.set_cons_succ]
        refine wpAnyH_ready (rs := [4]) (by kernel_rfl) (by simp) ?_
        refine AllReadyH.cons rfl (fun K hK => ?_) AllReadyH.nil
        refine if_wanted rfl ?_
        refine wp_assign0 rfl rfl ?_
        refine hK.out _ _ hHeld (fun hHeld => ?_)
        clear hK K
        refine wpAnyH_done (by kernel_rfl) ?_ _
        try simp only [Act.put, List.getElem_toArray, List.getElem_cons_zero, List.getElem_cons_succ, List.setIfInBounds_toArray, List.set_cons_zero, List.set_cons_succ]
        have hk3 := S3.out.rowOff (B' := w.heap.size + 1 + 1 + 1) (by omega) (ccells Y).toArray
        have hk4 := CBlk.setRow (Y := Y) S4.out
        have hk5 := Below.setRow S5.out (w.heap.size + 1 + 1 + 1) (ccells Y).toArray (by omega)
        clear hHeld
        go_wp2
        exact bodyPost_ret (v := fiV X Y 0) (results_cc3 (v3 := .int .i64 0) rfl _ (by rfl) _ _ _ 31 31 _ _ (0, 0) (0, 0) _ rfl rfl hk3 hk4 Tryd.underlying31 rfl (size_of_crate Tryd.sizeCr _ LX.out) (size_of_crate Tryd.sizeCr _ LY.out)) rfl ⟨by rw [MX.out.1, MX.out.2], hk5⟩
end Go.Proofs.YtjiihdljchaeiaeDoor
