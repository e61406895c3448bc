/-
  The contracts of TurnCrate, of the model and of the program. Condition: the sentinel errors lie as the row lists them.
-/
import Derived.Test.YtjiihdljchaeiaeDoorB
import Derived.Test.YtjiihdljchaeiaeDoorQ
namespace Go.Proofs.YtjiihdljchaeiaeDoor
open Go.RowKit Go.Shelf Go.Lib
shelf_lay_g SlLaysE0.n35 Slgn 35 at Tryd 37 as Tryd.lReverse

theorem results_cell_tmp {P : Program} {fn : Func} {p q : Tmp} {ty : TypeId} {v2 : Value} (h : fn.results = #[.cell p ty, .tmp q]) (tmps : Array Value) (hq : tmps.getD q undef = v2) (w : World) (g : Nat) (t : TypeId) (cs : Array Value) (fr : Nat × Nat) (d : TypeDesc)
    (hp : tmps.getD p undef = .pointer (some ⟨g, 0, none⟩)) (hg : w.heap[g]? = some (.cells cs t fr))
    (hu : P.underlying ty = some d) (hd : (match d with | .struct _ | .array _ _ => true | _ => false) = true) (hi : (P.info? ty).map (·.size) = some cs.size) :
    (results fn tmps).run P w = .ok (.tuple #[.agg cs, v2]) w := by
  subst hq
  have hp' : tmps[p]?.getD undef = .pointer (some ⟨g, 0, none⟩) := by simpa using hp
  simp [results, h, hp', asAddr, run_loadVar_row w g t ty cs fr d hg hu hd hi]

theorem CBlk.rowOther {w : World} {B B' : Nat} {t : TypeId} {X : List Bot} (h : CBlk w B t X) (hne : B ≠ B') (cs : Array Value) : CBlk (w.setRow B' cs) B t X := (setRow_other w B' B cs hne).trans h

/-- What TurnCrate answers. -/
def turnV (bs : List Bot) (ok : Bool) : Value := if ok = true then .tuple #[.agg (ccells bs.reverse).toArray, .int .i64 0] else .tuple #[.agg (ccells noB).toArray, .int .i64 1]

/-- What stands between two rounds of the model's TurnCrate. -/
def TR (bs : List Bot) (w : World) (B4 k : Nat) (X : List Bot) (wr : World) : Prop :=
  X.length = 12 ∧ (∀ j, j < k → X[11 - j]? = bs[j]?) ∧ CBlk wr w.heap.size 31 bs ∧ CBlk wr B4 31 X ∧ CBlk wr (w.heap.size + 1) 31 noB ∧ Below w.heap.size w wr
theorem TR.step {bs : List Bot} {w wr : World} {B4 k : Nat} {X : List Bot} (h : TR bs w B4 k X wr) (h4 : w.heap.size + 1 < B4) (hk : k < 12) {b : Bot} (hb : bs[k]? = some b) :
    TR bs w B4 (k + 1) (X.set (11 - k) b) ((wr.setCell ⟨B4, (11 - k) * 2, none⟩ (.int .u8 b.1)).setCell ⟨B4, (11 - k) * 2 + 1, none⟩ (.int .i16 b.2)) := by
  obtain ⟨hX, hj, hA, hO, hR, hB⟩ := h
  refine ⟨by simp [hX], fun j hjk => ?_, (hA.other (by omega) _ _).other (by omega) _ _, hO.set (11 - k) (by omega) b, (hR.other (by omega) _ _).other (by omega) _ _, ?_⟩
  · by_cases e : j = k
    · subst e
      rw [List.getElem?_set_self (by omega), hb]
    · rw [List.getElem?_set_ne (by omega)]
      exact hj j (by omega)
  · exact (hB.setCell (p := ⟨B4, (11 - k) * 2, none⟩) (by show w.heap.size ≤ B4; omega) _).setCell (p := ⟨B4, (11 - k) * 2 + 1, none⟩) (by show w.heap.size ≤ B4; omega) _

set_option maxRecDepth 100000 in
set_option maxHeartbeats 1000000 in
theorem specTurn_any (bs : List Bot) (hwf : WfC bs) (w : World) : Calls Tryd.prog 21 #[.agg (ccells bs).toArray] w fun e w' => e = .returned (turnV bs (okC bs)) ∧ Below w.heap.size w w' := by
  have HW := Lib.hid hwf
  clear hwf
  have h1 := (CBlk.new w 31 bs).alloc (.cells #[.int .u8 0, .int .i16 0, .int .u8 0, .int .i16 0, .int .u8 0, .int .i16 0, .int .u8 0, .int .i16 0, .int .u8 0, .int .i16 0, .int .u8 0, .int .i16 0, .int .u8 0, .int .i16 0, .int .u8 0, .int .i16 0, .int .u8 0, .int .i16 0, .int .u8 0, .int .i16 0, .int .u8 0, .int .i16 0, .int .u8 0, .int .i16 0] 31)
  have h2 : CBlk ((w.alloc (.cells (ccells bs).toArray 31)).alloc (.cells #[.int .u8 0, .int .i16 0, .int .u8 0, .int .i16 0, .int .u8 0, .int .i16 0, .int .u8 0, .int .i16 0, .int .u8 0, .int .i16 0, .int .u8 0, .int .i16 0, .int .u8 0, .int .i16 0, .int .u8 0, .int .i16 0, .int .u8 0, .int .i16 0, .int .u8 0, .int .i16 0, .int .u8 0, .int .i16 0, .int .u8 0, .int .i16 0] 31)) (w.heap.size + 1) 31 noB := CBlk.new' (by simp) rfl
  have h3 : Below w.heap.size w ((w.alloc (.cells (ccells bs).toArray 31)).alloc (.cells #[.int .u8 0, .int .i16 0, .int .u8 0, .int .i16 0, .int .u8 0, .int .i16 0, .int .u8 0, .int .i16 0, .int .u8 0, .int .i16 0, .int .u8 0, .int .i16 0, .int .u8 0, .int .i16 0, .int .u8 0, .int .i16 0, .int .u8 0, .int .i16 0, .int .u8 0, .int .i16 0, .int .u8 0, .int .i16 0, .int .u8 0, .int .i16 0] 31)) := (by repeat (first | exact Below.refl _ _ | refine Below.drew ?_ | refine Below.alloc ?_ (by simp <;> omega) _ | refine Below.setCell ?_ (by simp <;> omega) _))
  have H1 := Lib.hid h1
  have H2 := Lib.hid h2
  have H3 := Lib.hid h3
  clear h1 h2 h3
  go_enter Tryd.func21, Tryd.ntmps21
  go_wp2_with fail
  refine (l01Ok_any bs HW.out _ _ H1.out).mono ?_
  rintro e w1 ⟨rfl, hb1⟩
  have HB1 : Hid (Below w.heap.size w w1) := H3.out.trans (hb1.mono H3.out.size)
  have K1 : Hid (CBlk w1 w.heap.size 31 bs) := H1.out.below hb1 H1.out.lt
  have K2 : Hid (CBlk w1 (w.heap.size + 1) 31 noB) := H2.out.below hb1 H2.out.lt
  clear hb1 H1 H2 H3
  cases hv : okC bs
  · have Hv := Lib.hid hv
    clear hv
    go_wp2_with (refine wpList_store_row rfl 31 (.tmp 2) (.tmp 8) rfl (w.heap.size + 1) (ccells noB).toArray rfl rfl 31 _ K2.out (size_of_crate Tryd.sizeCr _ rfl) rfl (ccells_one _) ?_)
    exact bodyPost_ret (v := .tuple #[.agg (ccells noB).toArray, .int .i64 1]) (results_cell_tmp (v2 := .int .i64 1) rfl _ (by rfl) _ _ 31 _ (0, 0) _ rfl (K2.out.setRow (Y := noB)) Tryd.underlying31 rfl (size_of_crate Tryd.sizeCr _ rfl)) rfl ⟨by rw [Hv.out]; rfl, Below.setRow HB1.out _ _ (by omega)⟩
  · have Hv := Lib.hid hv
    clear hv
    have G0 : Hid (CBlk (w1.alloc (.cells #[.int .u8 0, .int .i16 0, .int .u8 0, .int .i16 0, .int .u8 0, .int .i16 0, .int .u8 0, .int .i16 0, .int .u8 0, .int .i16 0, .int .u8 0, .int .i16 0, .int .u8 0, .int .i16 0, .int .u8 0, .int .i16 0, .int .u8 0, .int .i16 0, .int .u8 0, .int .i16 0, .int .u8 0, .int .i16 0, .int .u8 0, .int .i16 0] 31)) w1.heap.size 31 noB) := CBlk.new' rfl rfl
    have G1 : Hid (CBlk ((w1.alloc (.cells #[.int .u8 0, .int .i16 0, .int .u8 0, .int .i16 0, .int .u8 0, .int .i16 0, .int .u8 0, .int .i16 0, .int .u8 0, .int .i16 0, .int .u8 0, .int .i16 0, .int .u8 0, .int .i16 0, .int .u8 0, .int .i16 0, .int .u8 0, .int .i16 0, .int .u8 0, .int .i16 0, .int .u8 0, .int .i16 0, .int .u8 0, .int .i16 0] 31)).setRow w1.heap.size (ccells noB).toArray) w.heap.size 31 bs) := CBlk.rowOther (CBlk.alloc K1.out _) (by have := K1.out.lt; omega) _
    have G2 : Hid (CBlk ((w1.alloc (.cells #[.int .u8 0, .int .i16 0, .int .u8 0, .int .i16 0, .int .u8 0, .int .i16 0, .int .u8 0, .int .i16 0, .int .u8 0, .int .i16 0, .int .u8 0, .int .i16 0, .int .u8 0, .int .i16 0, .int .u8 0, .int .i16 0, .int .u8 0, .int .i16 0, .int .u8 0, .int .i16 0, .int .u8 0, .int .i16 0, .int .u8 0, .int .i16 0] 31)).setRow w1.heap.size (ccells noB).toArray) (w.heap.size + 1) 31 noB) := CBlk.rowOther (CBlk.alloc K2.out _) (by have := K2.out.lt; omega) _
    have G3 : Hid (CBlk ((w1.alloc (.cells #[.int .u8 0, .int .i16 0, .int .u8 0, .int .i16 0, .int .u8 0, .int .i16 0, .int .u8 0, .int .i16 0, .int .u8 0, .int .i16 0, .int .u8 0, .int .i16 0, .int .u8 0, .int .i16 0, .int .u8 0, .int .i16 0, .int .u8 0, .int .i16 0, .int .u8 0, .int .i16 0, .int .u8 0, .int .i16 0, .int .u8 0, .int .i16 0] 31)).setRow w1.heap.size (ccells noB).toArray) w1.heap.size 31 noB) := CBlk.setRow G0.out
    have G4 : Hid (Below w.heap.size w ((w1.alloc (.cells #[.int .u8 0, .int .i16 0, .int .u8 0, .int .i16 0, .int .u8 0, .int .i16 0, .int .u8 0, .int .i16 0, .int .u8 0, .int .i16 0, .int .u8 0, .int .i16 0, .int .u8 0, .int .i16 0, .int .u8 0, .int .i16 0, .int .u8 0, .int .i16 0, .int .u8 0, .int .i16 0, .int .u8 0, .int .i16 0, .int .u8 0, .int .i16 0] 31)).setRow w1.heap.size (ccells noB).toArray)) := Below.setRow (HB1.out.alloc HB1.out.size _) _ _ HB1.out.size
    have G5 : Hid (w.heap.size + 1 < w1.heap.size) := K2.out.lt
    go_wp2_with (refine wpList_store_row rfl 31 (.tmp 4) (.tmp 9) rfl w1.heap.size (ccells noB).toArray rfl rfl 31 _ G0.out (size_of_crate Tryd.sizeCr _ rfl) rfl (ccells_one _) ?_)
    go_loopw [5] (fun i wr => ∃ (k : Nat) (X : List Bot), k ≤ 12 ∧ i = .int .i64 k ∧ TR bs w w1.heap.size k X wr) (fun i _ => 12 - (intOf i).toNat)
    case atStart => exact ⟨0, noB, by omega, rfl, rfl, fun j h => by omega, G1.out, G3.out, G2.out, G4.out⟩
    case round =>
      obtain ⟨k, X, hk, rfl, hT⟩ := hrel
      have HT := Lib.hid hT
      clear hT
      by_cases hlt : k < 12
      · obtain ⟨x, y, hbk, _, _⟩ := HW.out.at_ hlt
        have e1 := HT.out.2.2.1.kind' hbk
        have e2 := HT.out.2.2.1.year' hbk
        have f1 := HT.out.2.2.2.1.kind (11 - k) (by rw [HT.out.1]; omega)
        have f2 := HT.out.2.2.2.1.year (11 - k) (by rw [HT.out.1]; omega)
        have f3 := HT.out.2.2.2.1.frozen ((11 - k) * 2)
        have f4 := HT.out.2.2.2.1.frozen ((11 - k) * 2 + 1)
        have Hk := Lib.hid hbk
        clear hbk
        clear f3 f4
        have f3 := HT.out.2.2.2.1.frozen ((11 - k) * 2)
        have f4 := HT.out.2.2.2.1.frozen ((11 - k) * 2 + 1)
        have hst := TR.step (b := (x, y)) HT.out G5.out hlt Hk.out
        have HS := Lib.hid hst
        clear hst
        go_wp2
        go_roundw
        case rel => exact ⟨k + 1, _, by omega, by go_num, HS.out⟩
        case measure => simp [intOf]; omega
      · obtain rfl : k = 12 := by omega
        have hrv : Hid (X = bs.reverse) := by
          show X = bs.reverse
          refine list_eq_of HT.out.1 (by rw [List.length_reverse]; exact HW.out.1) (fun j hj => ?_)
          have h := HT.out.2.1 (11 - j) (by omega)
          rw [show 11 - (11 - j) = j from by omega] at h
          rw [h, List.getElem?_reverse (by rw [HW.out.1]; exact hj), HW.out.1]
        have Q0 : Hid (CBlk wr w1.heap.size 31 bs.reverse) := by show CBlk wr w1.heap.size 31 bs.reverse; rw [← hrv.out]; exact HT.out.2.2.2.1
        have Q1 : Hid (CBlk wr (w.heap.size + 1) 31 noB) := HT.out.2.2.2.2.1
        have Q2 : Hid (Below w.heap.size w wr) := HT.out.2.2.2.2.2
        have HR : Hid (bs.reverse.length = 12) := by show bs.reverse.length = 12; rw [List.length_reverse]; exact HW.out.1
        go_wp2_with (first
          | (refine wpList_load_row rfl 31 (.tmp 4) rfl w1.heap.size rfl 31 _ (0, 0) _ Q0.out Tryd.underlying31 rfl (size_of_crate Tryd.sizeCr _ HR.out) ?_)
          | (refine wpList_store_row rfl 31 (.tmp 2) (.tmp 20) rfl (w.heap.size + 1) _ rfl rfl 31 _ Q1.out (size_of_crate Tryd.sizeCr _ HR.out) (by rw [ccells_size _ HR.out]; rfl) (ccells_one _) ?_))
        exact bodyPost_ret (v := .tuple #[.agg (ccells bs.reverse).toArray, .int .i64 0]) (results_cell_tmp (v2 := .int .i64 0) rfl _ (by rfl) _ _ 31 _ (0, 0) _ rfl (Q1.out.setRow (Y := bs.reverse)) Tryd.underlying31 rfl (size_of_crate Tryd.sizeCr _ HR.out)) rfl ⟨by rw [Hv.out]; rfl, Below.setRow Q2.out _ _ (by omega)⟩

theorem reverse_any (bs : List Bot) (hl : bs.length = 12) (B : Nat) (w : World) (h : CBlk w B 31 bs) : Calls Tryd.prog 37 #[.slice (some ⟨B, 0, none⟩) 12 12] w fun e w' =>
    e = .returned (.tuple #[]) ∧ CBlk w' B 31 bs.reverse ∧ (∀ N, N ≤ B → Below N w w') ∧ (∀ k, k ≠ B → w'.heap[k]? = w.heap[k]?) := by
  have hr := AnyQ.slices_Reverse Tryd.lReverse 2 Tryd.isAgg29 Tryd.sizeOf29 bcells (fun _ => rfl) (fun x v hv => by simp [bcells] at hv; rcases hv with rfl | rfl <;> rfl) B 0 12 bs.toArray w (holds_crate h) (by simp [hl])
  rw [show bs.toArray.size = 12 from by simp [hl]] at hr
  refine hr.mono fun e w' ⟨he, n, hw⟩ => ?_
  have hrev : bs.toArray.reverse = bs.reverse.toArray := by simp
  rw [hrev] at hw
  subst hw
  refine ⟨he, cblk_putRow (cblk_ahead h n) (by simp), fun N hN => below_putRow (below_ahead (Below.refl _ _) n) B hN _, fun k hk => ?_⟩
  simp only [Sort.putRowK, Sort.putRow, Sort.mapBlock, Array.getElem?_modify, Sort.ahead]
  rw [if_neg (fun e => hk e.symm)]

set_option maxRecDepth 100000 in
set_option maxHeartbeats 1000000 in
theorem implTurn_any (bs : List Bot) (hwf : WfC bs) (ad : Nat → Addr) (w : World) (hE : EW 7 w ad) : Calls Tryd.prog 22 #[.agg (ccells bs).toArray] w fun e w' => e = .returned (turnV bs (okC bs)) ∧ Below w.heap.size w w' := by
  have HW := Lib.hid hwf
  have HE := Lib.hid hE
  clear hwf hE
  have h1 := (CBlk.new w 31 bs).alloc (.cells #[.int .u8 0, .int .i16 0, .int .u8 0, .int .i16 0, .int .u8 0, .int .i16 0, .int .u8 0, .int .i16 0, .int .u8 0, .int .i16 0, .int .u8 0, .int .i16 0, .int .u8 0, .int .i16 0, .int .u8 0, .int .i16 0, .int .u8 0, .int .i16 0, .int .u8 0, .int .i16 0, .int .u8 0, .int .i16 0, .int .u8 0, .int .i16 0] 31)
  have h2 : CBlk ((w.alloc (.cells (ccells bs).toArray 31)).alloc (.cells #[.int .u8 0, .int .i16 0, .int .u8 0, .int .i16 0, .int .u8 0, .int .i16 0, .int .u8 0, .int .i16 0, .int .u8 0, .int .i16 0, .int .u8 0, .int .i16 0, .int .u8 0, .int .i16 0, .int .u8 0, .int .i16 0, .int .u8 0, .int .i16 0, .int .u8 0, .int .i16 0, .int .u8 0, .int .i16 0, .int .u8 0, .int .i16 0] 31)) (w.heap.size + 1) 31 noB := CBlk.new' (by simp) rfl
  have h3 : Below w.heap.size w ((w.alloc (.cells (ccells bs).toArray 31)).alloc (.cells #[.int .u8 0, .int .i16 0, .int .u8 0, .int .i16 0, .int .u8 0, .int .i16 0, .int .u8 0, .int .i16 0, .int .u8 0, .int .i16 0, .int .u8 0, .int .i16 0, .int .u8 0, .int .i16 0, .int .u8 0, .int .i16 0, .int .u8 0, .int .i16 0, .int .u8 0, .int .i16 0, .int .u8 0, .int .i16 0, .int .u8 0, .int .i16 0] 31)) := (by repeat (first | exact Below.refl _ _ | refine Below.drew ?_ | refine Below.alloc ?_ (by simp <;> omega) _ | refine Below.setCell ?_ (by simp <;> omega) _))
  have h4 : ((w.alloc (.cells (ccells bs).toArray 31)).alloc (.cells #[.int .u8 0, .int .i16 0, .int .u8 0, .int .i16 0, .int .u8 0, .int .i16 0, .int .u8 0, .int .i16 0, .int .u8 0, .int .i16 0, .int .u8 0, .int .i16 0, .int .u8 0, .int .i16 0, .int .u8 0, .int .i16 0, .int .u8 0, .int .i16 0, .int .u8 0, .int .i16 0, .int .u8 0, .int .i16 0, .int .u8 0, .int .i16 0] 31)).heap.size = w.heap.size + 1 + 1 := by simp
  have H1 := Lib.hid h1
  have H2 := Lib.hid h2
  have H3 := Lib.hid h3
  have H4 := Lib.hid h4
  clear h1 h2 h3 h4
  go_enter Tryd.func22, Tryd.ntmps22
  go_wp2_with (first
    | (refine wpList_load_row rfl 31 (.tmp 1) rfl w.heap.size rfl 31 _ (0, 0) _ H1.out Tryd.underlying31 rfl (size_of_crate Tryd.sizeCr _ HW.out.1) ?_)
    | (refine wpList_oneCrate rfl 66 31 (.tmp 5) rfl bs HW.out.1 rfl Tryd.underlying66 Tryd.sizeCr Tryd.zeroCr ?_))
  obtain ⟨W0, hW0⟩ : ∃ W0, ((w.alloc (.cells (ccells bs).toArray 31)).alloc (.cells #[.int .u8 0, .int .i16 0, .int .u8 0, .int .i16 0, .int .u8 0, .int .i16 0, .int .u8 0, .int .i16 0, .int .u8 0, .int .i16 0, .int .u8 0, .int .i16 0, .int .u8 0, .int .i16 0, .int .u8 0, .int .i16 0, .int .u8 0, .int .i16 0, .int .u8 0, .int .i16 0, .int .u8 0, .int .i16 0, .int .u8 0, .int .i16 0] 31)).alloc (.cells (ccells bs).toArray 31) = W0 := ⟨_, rfl⟩
  have hB0 : Below w.heap.size w W0 := by rw [← hW0]; exact H3.out.alloc H3.out.size _
  have k0 : CBlk W0 w.heap.size 31 bs := by rw [← hW0]; exact CBlk.alloc H1.out _
  have k1 : CBlk W0 (w.heap.size + 1) 31 noB := by rw [← hW0]; exact CBlk.alloc H2.out _
  have k2 : CBlk W0 (w.heap.size + 1 + 1) 31 bs := by rw [← hW0]; exact CBlk.new' H4.out.symm rfl
  rw [hW0]
  have HBW := Lib.hid hB0
  have K0 := Lib.hid k0
  have K1 := Lib.hid k1
  have K2 := Lib.hid k2
  clear hW0 hB0 k0 k1 k2 H1 H2 H3 H4
  refine (checkOne_any bs HW.out _ _ ad _ K2.out (HE.out.below HBW.out (Nat.le_refl _))).mono ?_
  rintro e w1 ⟨rfl, hb1⟩
  have HB1 : Hid (Below w.heap.size w w1) := HBW.out.trans (hb1.mono HBW.out.size)
  have L0 : Hid (CBlk w1 w.heap.size 31 bs) := K0.out.below hb1 K0.out.lt
  have L1 : Hid (CBlk w1 (w.heap.size + 1) 31 noB) := K1.out.below hb1 K1.out.lt
  clear hb1 K0 K1 K2 HBW
  cases hv : okC bs
  · have Hv := Lib.hid hv
    have e1 : chkV ad false = .iface 88 (.pointer (some (ad 5))) := rfl
    rw [e1]
    clear hv e1
    go_wp2_with (first
      | (go_at_call 27; refine (codeOf_5 (HE.out.below HB1.out (Nat.le_refl _))).mono ?_; rintro e w2 ⟨rfl, rfl⟩)
      | (refine wpList_store_row rfl 31 (.tmp 2) (.tmp 10) rfl (w.heap.size + 1) (ccells noB).toArray rfl rfl 31 _ L1.out (size_of_crate Tryd.sizeCr _ rfl) rfl (ccells_one _) ?_))
    exact bodyPost_ret (v := .tuple #[.agg (ccells noB).toArray, .int .i64 1]) (results_cell_tmp (v2 := .int .i64 1) rfl _ (by rfl) _ _ 31 _ (0, 0) _ rfl (L1.out.setRow (Y := noB)) Tryd.underlying31 rfl (size_of_crate Tryd.sizeCr _ rfl)) rfl ⟨by rw [Hv.out]; rfl, Below.setRow HB1.out _ _ (by omega)⟩
  · have Hv := Lib.hid hv
    have e1 : chkV ad true = .nilIface := rfl
    rw [e1]
    clear hv e1
    go_wp2_with fail
    refine (reverse_any bs HW.out.1 _ _ L0.out).mono ?_
    rintro e w2 ⟨rfl, hc2, hb2, ho2⟩
    have HB2 : Hid (Below w.heap.size w w2) := HB1.out.trans (hb2 _ (Nat.le_refl _))
    have M0 := Lib.hid hc2
    have M1 : Hid (CBlk w2 (w.heap.size + 1) 31 noB) := (ho2 _ (by omega)).trans L1.out
    clear hc2 hb2 ho2
    have hlr : bs.reverse.length = 12 := by rw [List.length_reverse]; exact HW.out.1
    have HR := Lib.hid hlr
    clear hlr
    go_wp2_with (first
      | (refine wpList_load_row rfl 31 (.tmp 1) rfl w.heap.size rfl 31 _ (0, 0) _ M0.out Tryd.underlying31 rfl (size_of_crate Tryd.sizeCr _ HR.out) ?_)
      | (refine wpList_store_row rfl 31 (.tmp 2) (.tmp 15) rfl (w.heap.size + 1) _ rfl rfl 31 _ M1.out (size_of_crate Tryd.sizeCr _ HR.out) (by rw [ccells_size _ HR.out]; rfl) (ccells_one _) ?_))
    exact bodyPost_ret (v := .tuple #[.agg (ccells bs.reverse).toArray, .int .i64 0]) (results_cell_tmp (v2 := .int .i64 0) rfl _ (by rfl) _ _ 31 _ (0, 0) _ rfl (M1.out.setRow (Y := bs.reverse)) Tryd.underlying31 rfl (size_of_crate Tryd.sizeCr _ HR.out)) rfl ⟨by rw [Hv.out]; rfl, Below.setRow HB2.out _ _ (by omega)⟩
end Go.Proofs.YtjiihdljchaeiaeDoor
