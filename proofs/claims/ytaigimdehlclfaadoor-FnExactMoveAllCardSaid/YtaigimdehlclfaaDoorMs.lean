/-
  The contract of the program's movedAll. Condition: the crate's length, that its numbers and those of the moves fit their kinds; the sentinel errors lie as the row lists them.
-/
import Derived.Test.YtaigimdehlclfaaDoorMr
namespace Go.Proofs.YtaigimdehlclfaaDoor
open Go.ChangeShapes Go.WideShapes Go.ChangeAt Go.RowKit Go.Deep

/-- The code of moves one after the other. -/
def mvG : List Bot → List Swp → Int
  | _, [] => 0
  | X, s :: r => if mvC X s = 0 then mvG (swB X s) r else mvC X s
/-- All of the first k moves can be. -/
def MvTo (bs : List Bot) (xs : List Swp) (k : Nat) : Prop := ∀ j s, j < k → xs[j]? = some s → mvC (swTo bs xs j) s = 0
theorem MvTo.step {bs : List Bot} {xs : List Swp} {k : Nat} (h : MvTo bs xs k) {s : Swp} (hb : xs[k]? = some s) (ho : mvC (swTo bs xs k) s = 0) : MvTo bs xs (k + 1) := by
  intro j c hj hc
  by_cases e : j = k
  · subst e; rw [hb] at hc; cases hc; exact ho
  · exact h j c (by omega) hc
theorem MvTo.can {bs : List Bot} {xs : List Swp} {k : Nat} (h : MvTo bs xs k) : CanTo xs k := fun j s hj hs => mvC_zero (h j s hj hs)
theorem mvG_at {bs : List Bot} {xs : List Swp} {k : Nat} (h : MvTo bs xs k) (hk : k ≤ xs.length) : mvG bs xs = mvG (swTo bs xs k) (xs.drop k) := by
  induction k with
  | zero => rfl
  | succ k ih =>
    have hk' : k < xs.length := by omega
    have hx : xs[k]? = some xs[k] := List.getElem?_eq_getElem hk'
    rw [ih (fun j s hj => h j s (by omega)) (by omega), List.drop_eq_getElem_cons hk', mvG, if_pos (h k _ (by omega) hx), swTo_succ hx]
theorem mvG_no {bs : List Bot} {xs : List Swp} {k : Nat} (h : MvTo bs xs k) {s : Swp} (hb : xs[k]? = some s) (ho : mvC (swTo bs xs k) s ≠ 0) : mvG bs xs = mvC (swTo bs xs k) s := by
  obtain ⟨hk, he⟩ := List.getElem?_eq_some_iff.1 hb
  rw [mvG_at h (by omega), List.drop_eq_getElem_cons hk, mvG, he, if_neg ho]
theorem mvG_all {bs : List Bot} {xs : List Swp} (h : MvTo bs xs xs.length) : mvG bs xs = 0 := by
  rw [mvG_at h (Nat.le_refl _), List.drop_length]; rfl
/-- The crate that movedAll answers. -/
def mvL (bs : List Bot) (xs : List Swp) : List Bot := if mvG bs xs = 0 then swTo bs xs xs.length else noB
theorem mvG_one (bs : List Bot) (s : Swp) : mvG bs [s] = mvC bs s := by
  rw [mvG, mvG]; split
  · rename_i h; exact h.symm
  · rfl

theorem results_ce {P : Program} {fn : Func} {p q : Tmp} {ty ety : TypeId} (h : fn.results = #[.cell p ty, .cell q ety]) (tmps : Array Value) (w : World) (g : Nat) (t : TypeId) (cs : Array Value) (fr : Nat × Nat) (d : TypeDesc)
    (hp : tmps.getD p undef = .pointer (some ⟨g, 0, none⟩)) (hg : w.heap[g]? = some (.cells cs t fr))
    (hu : P.underlying ty = some d) (hd : (match d with | .struct _ | .array _ _ => true | _ => false) = true) (hi : (P.info? ty).map (·.size) = some cs.size) (g2 : Nat) (v2 : Value)
    (hq : tmps.getD q undef = .pointer (some ⟨g2, 0, none⟩)) (h2 : (loadVar ety ⟨g2, 0, none⟩).run P w = .ok v2 w) :
    (results fn tmps).run P w = .ok (.tuple #[.agg cs, v2]) w := by
  have hp' : tmps[p]?.getD undef = .pointer (some ⟨g, 0, none⟩) := by simpa using hp
  have hq' : tmps[q]?.getD undef = .pointer (some ⟨g2, 0, none⟩) := by simpa using hq
  simp [results, h, hp', hq', asAddr, run_loadVar_row w g t ty cs fr d hg hu hd hi, h2]
theorem load_err (w : World) (g : Nat) {v : Value} (h : w.cell? ⟨g, 0, none⟩ = some v) : (loadVar 49 ⟨g, 0, none⟩).run Tryd.prog w = .ok v w := by
  simp [go_sem, h]

set_option maxRecDepth 100000 in
set_option maxHeartbeats 4000000 in
theorem movedAll_any (bs : List Bot) (hwf : WfC bs) (xs : List Swp) (hxs : ∀ x ∈ xs, wfS x) (A : Option Addr) (c : Nat) (ad : Nat → Addr) (w : World) (hl : xs.length ≤ 1048576) (hr : Rd w w.heap.size scells A xs) (hE : EW 7 w ad) :
    Calls Tryd.prog 19 #[.agg (ccells bs).toArray, .slice A xs.length c] w fun e w' => e = .returned (.tuple #[.agg (ccells (mvL bs xs)).toArray, mvE ad (mvG bs xs)]) ∧ Below w.heap.size w w' := by
  have hmf : ∀ (fn : Fn) (first cap : Array Value) (w : World), (Instr.makeFunc fn first cap).run Tryd.prog w = .ok (.func fn first cap) w := fun _ _ _ _ => rfl
  have HW := Lib.hid hwf
  have HX := Lib.hid hxs
  have HR := Lib.hid hr
  have HE := Lib.hid hE
  clear hwf hr hxs hE
  have h1 : CBlk (((w.alloc (.cells (ccells bs).toArray 30)).alloc (.cells #[.int .u8 0, .int .i16 0, .int .u8 0, .int .i16 0, .int .u8 0, .int .i16 0, .int .u8 0, .int .i16 0, .int .u8 0, .int .i16 0, .int .u8 0, .int .i16 0, .int .u8 0, .int .i16 0, .int .u8 0, .int .i16 0, .int .u8 0, .int .i16 0, .int .u8 0, .int .i16 0, .int .u8 0, .int .i16 0, .int .u8 0, .int .i16 0] 30)).alloc (.cells #[.nilIface] 49)) w.heap.size 30 bs := ((CBlk.new w _ bs).alloc _).alloc _
  have h3 : CBlk (((w.alloc (.cells (ccells bs).toArray 30)).alloc (.cells #[.int .u8 0, .int .i16 0, .int .u8 0, .int .i16 0, .int .u8 0, .int .i16 0, .int .u8 0, .int .i16 0, .int .u8 0, .int .i16 0, .int .u8 0, .int .i16 0, .int .u8 0, .int .i16 0, .int .u8 0, .int .i16 0, .int .u8 0, .int .i16 0, .int .u8 0, .int .i16 0, .int .u8 0, .int .i16 0, .int .u8 0, .int .i16 0] 30)).alloc (.cells #[.nilIface] 49)) (w.heap.size + 1) 30 noB := by
    refine CBlk.alloc ?_ _
    exact CBlk.new' (by simp) rfl
  have h4 : Blk (((w.alloc (.cells (ccells bs).toArray 30)).alloc (.cells #[.int .u8 0, .int .i16 0, .int .u8 0, .int .i16 0, .int .u8 0, .int .i16 0, .int .u8 0, .int .i16 0, .int .u8 0, .int .i16 0, .int .u8 0, .int .i16 0, .int .u8 0, .int .i16 0, .int .u8 0, .int .i16 0, .int .u8 0, .int .i16 0, .int .u8 0, .int .i16 0, .int .u8 0, .int .i16 0, .int .u8 0, .int .i16 0] 30)).alloc (.cells #[.nilIface] 49)) (w.heap.size + 1 + 1) 49 #[.nilIface] := Blk.new' (by simp) rfl
  have hb : Below w.heap.size w (((w.alloc (.cells (ccells bs).toArray 30)).alloc (.cells #[.int .u8 0, .int .i16 0, .int .u8 0, .int .i16 0, .int .u8 0, .int .i16 0, .int .u8 0, .int .i16 0, .int .u8 0, .int .i16 0, .int .u8 0, .int .i16 0, .int .u8 0, .int .i16 0, .int .u8 0, .int .i16 0, .int .u8 0, .int .i16 0, .int .u8 0, .int .i16 0, .int .u8 0, .int .i16 0, .int .u8 0, .int .i16 0] 30)).alloc (.cells #[.nilIface] 49)) := (by repeat (first | exact Below.refl _ _ | refine Below.drew ?_ | refine Below.alloc ?_ (by simp <;> omega) _ | refine Below.setCell ?_ (by simp <;> omega) _))
  obtain ⟨W1, hW1⟩ : ∃ W1, (((w.alloc (.cells (ccells bs).toArray 30)).alloc (.cells #[.int .u8 0, .int .i16 0, .int .u8 0, .int .i16 0, .int .u8 0, .int .i16 0, .int .u8 0, .int .i16 0, .int .u8 0, .int .i16 0, .int .u8 0, .int .i16 0, .int .u8 0, .int .i16 0, .int .u8 0, .int .i16 0, .int .u8 0, .int .i16 0, .int .u8 0, .int .i16 0, .int .u8 0, .int .i16 0, .int .u8 0, .int .i16 0] 30)).alloc (.cells #[.nilIface] 49)) = W1 := ⟨_, rfl⟩
  rw [hW1] at h1 h3 h4 hb
  have H1 := Lib.hid h1
  have H3 := Lib.hid h3
  have H4 := Lib.hid h4
  have HB := Lib.hid hb
  clear h1 h3 h4 hb
  go_enter_defers Tryd.func19, Tryd.ntmps19
  go_wp2_with fail
  clear hW1
  go_loopw [11] (fun i wr => ∃ k : Nat, k ≤ xs.length ∧ i = .int .i64 k ∧ MvTo bs xs k ∧ CBlk wr w.heap.size 30 (swTo bs xs k) ∧ CBlk wr (w.heap.size + 1) 30 noB ∧ Blk wr (w.heap.size + 1 + 1) 49 #[.nilIface] ∧ Below w.heap.size w wr) (fun i _ => xs.length - (intOf i).toNat)
  case atStart => exact ⟨0, by omega, rfl, fun j s h => by omega, H1.out, H3.out, H4.out, HB.out⟩
  case round =>
    clear H1 H3 H4 HB
    obtain ⟨k, hk, rfl, q1, q2, q3, q5, q4⟩ := hrel
    have Q1 := Lib.hid q1
    have Q2 := Lib.hid q2
    have Q3 := Lib.hid q3
    have Q5 := Lib.hid q5
    have Q4 := Lib.hid q4
    have QW := Lib.hid (q1.can.wf HW.out)
    clear q1 q2 q3 q4 q5
    by_cases hlt : k < xs.length
    · obtain ⟨⟨x, y⟩, hx⟩ : ∃ x, xs[k]? = some x := ⟨_, List.getElem?_eq_getElem hlt⟩
      have hwx := Lib.hid (HX.out _ (List.mem_of_getElem? hx))
      obtain ⟨b, o, rfl, hbl, hrow⟩ := (HR.out.below (Nat.le_refl _) Q4.out).at_ scells_length hx
      obtain ⟨e1, e2⟩ := rowS hrow
      have hk0 : (0 : Int) ≤ (k : Int) := Int.natCast_nonneg _
      have hk8 : (k : Int) < xs.length := by omega
      have HXk := Lib.hid hx
      clear hx hrow hbl
      have g2 : CBlk (wr.alloc (.cells #[.int .i8 x, .int .i8 y] 44)) w.heap.size 30 (swTo bs xs k) := Q2.out.alloc _
      have g3 : CBlk (wr.alloc (.cells #[.int .i8 x, .int .i8 y] 44)) (w.heap.size + 1) 30 noB := Q3.out.alloc _
      have g5 : Blk (wr.alloc (.cells #[.int .i8 x, .int .i8 y] 44)) (w.heap.size + 1 + 1) 49 #[.nilIface] := Q5.out.alloc _
      have g4 : Below w.heap.size w (wr.alloc (.cells #[.int .i8 x, .int .i8 y] 44)) := Q4.out.alloc Q4.out.size _
      have G2 := Lib.hid g2
      have G3 := Lib.hid g3
      have G4 := Lib.hid g4
      have G5 := Lib.hid g5
      clear g2 g3 g4 g5 Q2 Q3 Q4 Q5
      go_wp2_with (refine wpList_load_row rfl 30 (.tmp 2) rfl w.heap.size rfl 30 _ (0, 0) _ G2.out Tryd.underlying30 rfl (size_of_crate Tryd.sizeCr _ QW.out.1) ?_)
      refine (moved_any _ QW.out x y hwx.out ad _ (HE.out.below G4.out (Nat.le_refl _))).mono ?_
      rintro e w4 ⟨he, hb4⟩
      have F1 : Hid (CBlk w4 w.heap.size 30 (swTo bs xs k)) := G2.out.below hb4 G2.out.lt
      have F3 : Hid (CBlk w4 (w.heap.size + 1) 30 noB) := G3.out.below hb4 G3.out.lt
      have F5 : Hid (Blk w4 (w.heap.size + 1 + 1) 49 #[.nilIface]) := G5.out.below hb4 G5.out.lt
      have F4 : Hid (Below w.heap.size w w4) := G4.out.trans (hb4.mono G4.out.size)
      clear hb4 G2 G3 G4 G5 e1 e2
      by_cases h0 : mvC (swTo bs xs k) (x, y) = 0
      · rw [if_pos h0, mvR_of h0] at he
        subst he
        have HS1 := Lib.hid (Q1.out.step HXk.out h0)
        have HSx := Lib.hid (swTo_succ (X := bs) HXk.out)
        have HY := Lib.hid (swB_wf QW.out (mvC_zero h0)).1
        clear h0
        obtain ⟨Y, hY⟩ : ∃ Y, swB (swTo bs xs k) (x, y) = Y := ⟨_, rfl⟩
        rw [hY] at HY HSx ⊢
        clear hY
        go_wp2_with (refine wpList_store_row rfl 30 (.tmp 2) (.tmp 17) rfl w.heap.size _ rfl rfl 30 _ F1.out (size_of_crate Tryd.sizeCr _ HY.out) (by rw [ccells_size _ QW.out.1, ccells_size _ HY.out]) (ccells_one _) ?_)
        go_roundw
        case rel => exact ⟨k + 1, by omega, by go_num, HS1.out, by rw [HSx.out]; exact CBlk.setRow F1.out, F3.out.rowOff (by omega) _, (setRow_other _ _ _ _ (by omega)).trans F5.out, Below.setRow F4.out _ _ (Nat.le_refl _)⟩
        case measure => simp [intOf]; omega
      · rw [if_neg h0] at he
        subst he
        have HG := Lib.hid (mvG_no Q1.out HXk.out h0)
        obtain ⟨j, hj⟩ := mvE_ne ad h0
        have H0 := Lib.hid h0
        clear h0
        refine leaves_cons (f := 27) (args := #[.pointer (some ⟨w.heap.size + 1 + 1, 0, none⟩)]) (by simp) (by simp [go_sem]) ?_
        refine (caught_panic ⟨w.heap.size + 1 + 1, 0, none⟩ ad _ j hj [] _ F5.out.lt (F5.out.cell 0) (F5.out.frozen 0)).mono ?_
        rintro e u' w5 ⟨rfl, rfl, w1, hb1, rfl⟩
        have z3 : CBlk (w1.setCell ⟨w.heap.size + 1 + 1, 0, none⟩ (mvE ad (mvC (swTo bs xs k) (x, y)))) (w.heap.size + 1) 30 noB := (F3.out.below hb1 F3.out.lt).other (by omega) _ _
        have z6 : Blk (w1.setCell ⟨w.heap.size + 1 + 1, 0, none⟩ (mvE ad (mvC (swTo bs xs k) (x, y)))) (w.heap.size + 1 + 1) 49 #[mvE ad (mvC (swTo bs xs k) (x, y))] := (F5.out.below hb1 F5.out.lt).set_ 0 _
        exact ⟨_, results_ce rfl _ _ _ 30 _ (0, 0) _ rfl z3 Tryd.underlying30 rfl (size_of_crate Tryd.sizeCr _ rfl) _ _ rfl (load_err _ _ (z6.cell 0)), by rw [HG.out, mvL, if_neg (by rw [HG.out]; exact H0.out)]; rfl, (F4.out.trans (hb1.mono F4.out.size)).setCell (by show _ ≤ w.heap.size + 1 + 1; omega) _⟩
    · obtain rfl : k = xs.length := by omega
      have HG := Lib.hid (mvG_all Q1.out)
      have QL := Lib.hid QW.out.1
      obtain ⟨Z, hZ⟩ : ∃ Z, swTo bs xs xs.length = Z := ⟨_, rfl⟩
      rw [hZ] at QL Q2
      have HZ := Lib.hid hZ
      clear hZ QW
      have z5 : Blk (wr.setRow (w.heap.size + 1) (ccells Z).toArray) (w.heap.size + 1 + 1) 49 #[.nilIface] := (setRow_other _ _ _ _ (by omega)).trans Q5.out
      have e5 : (wr.setRow (w.heap.size + 1) (ccells Z).toArray).cell? ⟨w.heap.size + 1 + 1, 0, none⟩ = some .nilIface := z5.cell 0
      have f5 := z5.frozen 0
      go_wp2_with (first
        | (refine wpList_load_row rfl 30 (.tmp 2) rfl w.heap.size rfl 30 _ (0, 0) _ Q2.out Tryd.underlying30 rfl (size_of_crate Tryd.sizeCr _ QL.out) ?_)
        | (refine wpList_store_row rfl 30 (.tmp 4) (.tmp 16) rfl (w.heap.size + 1) _ rfl rfl 30 _ Q3.out (size_of_crate Tryd.sizeCr _ QL.out) (by rw [ccells_size _ QL.out]; rfl) (ccells_one _) ?_)
        | (refine wpList_store_row rfl 30 (.tmp 4) (.tmp 17) rfl (w.heap.size + 1) _ rfl rfl 30 _ Q3.out (size_of_crate Tryd.sizeCr _ QL.out) (by rw [ccells_size _ QL.out]; rfl) (ccells_one _) ?_)
        | (refine wpList_store_row rfl 30 (.tmp 4) (.tmp 18) rfl (w.heap.size + 1) _ rfl rfl 30 _ Q3.out (size_of_crate Tryd.sizeCr _ QL.out) (by rw [ccells_size _ QL.out]; rfl) (ccells_one _) ?_)
        | (refine wpList_store_row rfl 30 (.tmp 4) (.tmp 19) rfl (w.heap.size + 1) _ rfl rfl 30 _ Q3.out (size_of_crate Tryd.sizeCr _ QL.out) (by rw [ccells_size _ QL.out]; rfl) (ccells_one _) ?_))
      refine leaves_cons (f := 27) (args := #[.pointer (some ⟨w.heap.size + 1 + 1, 0, none⟩)]) (by simp) (by simp [go_sem]) ?_
      refine (caught_idle ⟨w.heap.size + 1 + 1, 0, none⟩ _).mono ?_
      rintro e u' w5 ⟨rfl, rfl, rfl⟩
      have z3 : CBlk ((wr.setRow (w.heap.size + 1) (ccells Z).toArray).setCell ⟨w.heap.size + 1 + 1, 0, none⟩ .nilIface) (w.heap.size + 1) 30 Z := (CBlk.setRow Q3.out).other (by omega) _ _
      have z6 : Blk ((wr.setRow (w.heap.size + 1) (ccells Z).toArray).setCell ⟨w.heap.size + 1 + 1, 0, none⟩ .nilIface) (w.heap.size + 1 + 1) 49 #[.nilIface] := z5.set_ 0 _
      exact ⟨_, results_ce rfl _ _ _ 30 _ (0, 0) _ rfl z3 Tryd.underlying30 rfl (size_of_crate Tryd.sizeCr _ QL.out) _ _ rfl (load_err _ _ (z6.cell 0)), by rw [HG.out, mvL, if_pos HG.out, HZ.out]; rfl, (Below.setRow Q4.out _ _ (by omega)).setCell (by show _ ≤ w.heap.size + 1 + 1; omega) _⟩
end Go.Proofs.YtaigimdehlclfaaDoor
