/-
  The contract of the program's ValidCrate. No condition but the crate's length and that its numbers fit their kinds.
-/
import Derived.Test.YtcdhmlalpjcidaaDoorI
namespace Go.Proofs.YtcdhmlalpjcidaaDoor
open Go.RowKit Go.Shelf
attribute [local go_sem] Oper.semAt_some

theorem new_cell (W : World) (v : Value) (t : TypeId) : (W.alloc (.cells #[v] t)).cell? ⟨W.heap.size, 0, none⟩ = some v ∧ (W.alloc (.cells #[v] t)).frozen? ⟨W.heap.size, 0, none⟩ = false := by
  have h := heap_alloc_new W (.cells #[v] t)
  exact ⟨by rw [cell_of_row _ _ _ _ _ _ h]; rfl, frozen_of_row _ _ _ _ _ h⟩
theorem old_cell {W : World} {a : Addr} {v : Value} (o : Obj) (h : W.cell? a = some v) : (W.alloc o).cell? a = some v := (World.cell?_alloc_lt W o a (block_lt_of_cell h)).trans h
theorem old_frozen {W : World} {a : Addr} {v : Value} (o : Obj) (h : W.cell? a = some v) (hf : W.frozen? a = false) : (W.alloc o).frozen? a = false := by
  have hb : (W.alloc o).heap[a.block]? = W.heap[a.block]? := Below.heap_alloc W o _ (block_lt_of_cell h)
  exact (World.frozen?_of_block hb).trans hf

theorem isBottle_fits (n₀ : Nat) (w0 : World) : Fits Tryd.prog n₀ w0 104 #[] (fun b => !eB b) := fun b W _ _ => isBottle_any b.1 b.2 W

theorem okC_of_places {bs : List Bot} (h : ∀ j : Pl bs (fun b => !eB b), j ∈ plTo bs (fun b => !eB b) bs.length → ∀ b, bs[j.1]? = some b → vB b = true) : okC bs = true := by
  unfold okC
  rw [List.all_eq_true]
  intro b hb
  obtain ⟨j, hj, he⟩ := List.mem_iff_getElem.1 hb
  have hs : bs[j]? = some b := by rw [List.getElem?_eq_getElem hj, he]
  cases hE : eB b
  · have := h ⟨j, by rw [hs]; simp [hE]⟩ (plTo_mem.2 hj) b hs
    simp [okB, this]
  · simp [okB, hE]
theorem okC_of_bad {bs : List Bot} {j : Pl bs (fun b => !eB b)} {b : Bot} (hb : bs[j.1]? = some b) (hv : vB b = false) : okC bs = false := by
  refine okC_no hb ?_
  have := j.2
  rw [hb] at this
  simp at this
  simp [okB, this, hv]

theorem cblk_own {β : Type} (B : Nat) (t : TypeId) (X : List Bot) : Own (fun (_ : β) W => CBlk W B t X) := fun s A B' row hs hg hr => by
  have hs' : A.heap[B]? = some (.cells (ccells X).toArray t (0, 0)) := hs
  exact (hg.block B hs.lt (fun e => by obtain ⟨o, ho, hc⟩ := hr B e.symm; rw [hs'] at ho; cases ho; cases hc)).trans hs'

set_option maxRecDepth 100000 in
set_option maxHeartbeats 2000000 in
theorem validCrate_in (n : Nat) (hn : 6 ≤ n) (bs : List Bot) (hwf : WfC bs) (w : World) : CallsIn Fence.wide n Tryd.prog 103 #[.agg (ccells bs).toArray] w fun e w' => e = .returned (.bool (okC bs)) ∧ Below w.heap.size w w' := by
  have h1 : 1 ≤ n := by omega
  have HW := Lib.hid hwf
  clear hwf
  refine callsIn_of_wp_marks Tryd.func103 rfl trivial ?_ rfl
  simp only [Tryd.ntmps103, List.size_toArray, List.length_cons, List.length_nil, Nat.reduceAdd, Nat.reduceSub, Array.replicate_succ, Array.replicate_zero, List.push_toArray, List.append_toArray, List.nil_append, List.cons_append]
  have HL := Lib.hid (CBlk.alloc (CBlk.new w 30 bs) (.cells #[.bool false] 4))
  gi_wp2_with (first
    | (refine wpListIn_load_rowC rfl 30 (.tmp 1) rfl w.heap.size rfl 30 _ (0, 0) _ HL.out Tryd.underlying30 rfl (size_of_crate Tryd.sizeCr _ HW.out.1) ?_)
    | (refine ⟨trivial, ?_⟩; gi_at_call 97; refine (callsIn_wide.2 (placesWith_any bs _ ⟨_, _, rfl⟩ _)).mono ?_; rintro e w' ⟨rfl, rfl⟩))
  clear HL
  obtain ⟨W0, hW0⟩ : ∃ W0, ((((w.alloc (Obj.cells (ccells bs).toArray 30)).alloc (Obj.cells #[Value.bool false] 4)).alloc (Obj.cells (ccells bs).toArray 30)).alloc (Obj.cells #[Value.func (Fn.func 104) #[] #[]] 97)) = W0 := ⟨_, rfl⟩
  have hsz : W0.heap.size = w.heap.size + 1 + 1 + 1 + 1 := by rw [← hW0]; simp
  have k0 : CBlk W0 w.heap.size 30 bs := by rw [← hW0]; exact (((CBlk.new w 30 bs).alloc _).alloc _).alloc _
  have k2 : CBlk W0 (w.heap.size + 1 + 1) 30 bs := by
    rw [← hW0]; refine CBlk.alloc ?_ _
    exact CBlk.new' (by simp) rfl
  have c1 : W0.cell? ⟨w.heap.size + 1, 0, none⟩ = some (.bool false) ∧ W0.frozen? ⟨w.heap.size + 1, 0, none⟩ = false := by
    have q1 := new_cell (w.alloc (Obj.cells (ccells bs).toArray 30)) (.bool false) 4
    simp only [World.size_alloc] at q1
    rw [← hW0]; exact ⟨old_cell _ (old_cell _ q1.1), old_frozen _ (old_cell _ q1.1) (old_frozen _ q1.1 q1.2)⟩
  have c3 : W0.cell? ⟨w.heap.size + 1 + 1 + 1, 0, none⟩ = some (.func (.func 104) #[] #[]) := by
    have q3 := new_cell (((w.alloc (Obj.cells (ccells bs).toArray 30)).alloc (Obj.cells #[Value.bool false] 4)).alloc (Obj.cells (ccells bs).toArray 30)) (.func (.func 104) #[] #[]) 97
    simp only [World.size_alloc] at q3
    rw [← hW0]; exact q3.1
  have hB0 : Below w.heap.size w W0 := by rw [← hW0]; exact (by repeat (first | exact Below.refl _ _ | refine Below.drew ?_ | refine Below.alloc ?_ (by simp <;> omega) _ | refine Below.setCell ?_ (by simp <;> omega) _))
  rw [hW0]
  clear hW0
  refine wpIn_rangeFunc_ownF rfl h1 (gf := 110) (lb := #[.pointer (some ⟨w.heap.size + 1 + 1, 0, none⟩), .pointer (some ⟨w.heap.size + 1 + 1 + 1, 0, none⟩)]) rfl trivial (enters_of Tryd.func110 (by kernel_rfl) rfl)
    (places_stops bs HW.out (fun b => !eB b) 104 #[] (enters_of Tryd.func104 (by kernel_rfl) rfl) (n - 1) (by omega) W0.heap.size (w.heap.size + 1 + 1) (w.heap.size + 1 + 1 + 1) W0 W0 (Below.refl _ _) (isBottle_fits _ _) (Nat.le_refl _) k2 (by omega) c3)
    belowK_t (belowK_b (Nat.le_refl _)) (Below.refl _ _) (fun _ => rfl)
    (fun pre W => (∀ j ∈ pre, ∀ b, bs[j.1]? = some b → vB b = true) ∧ Below W0.heap.size W0 W)
    (fun c pre W => (c = .ret ∧ (∃ j ∈ pre, ∃ b, bs[j.1]? = some b ∧ vB b = false) ∧ W.cell? ⟨w.heap.size + 1, 0, none⟩ = some (.bool false)) ∧ Below w.heap.size w W)
    (OwnFrom.and (ownFrom_pure _ _) (ownFrom_below (Nat.le_refl _) (Nat.le_refl _)))
    (fun c => OwnFrom.and (Own.from (fun s A B row hs hg hr => ⟨hs.1, hs.2.1, cell_kept hs.2.2 hg hr⟩) _) (ownFrom_below (Nat.le_refl _) (by omega)))
    ⟨by simp, Below.refl _ _⟩
    (fun x => { tmps := #[.agg (ccells bs).toArray, .pointer (some ⟨w.heap.size, 0, none⟩), .pointer (some ⟨w.heap.size + 1, 0, none⟩), .int .i64 (x.1 : Int), .agg (ccells bs).toArray,
      .func (.func 110) #[] #[.pointer (some ⟨w.heap.size + 1 + 1, 0, none⟩), .pointer (some ⟨w.heap.size + 1 + 1 + 1, 0, none⟩)], .int .i64 (x.1 : Int), undef, undef, undef, undef, undef], defers := [] }) ?assign ?body ?done ?stop
  case assign =>
    intro l x W K hK
    gi_wp2
    exact hK
  case body =>
    rintro l pre ⟨j, hj⟩ W ⟨hp, hBB⟩ _
    have hc := k0.below hBB k0.lt
    have hcr := (hBB.cell (p := ⟨w.heap.size + 1, 0, none⟩) (by show w.heap.size + 1 < W0.heap.size; omega)).trans c1.1
    have hfr := (hBB.frozen (p := ⟨w.heap.size + 1, 0, none⟩) (by show w.heap.size + 1 < W0.heap.size; omega)).trans c1.2
    have hB := hB0.trans (hBB.mono hB0.size)
    have HBB := Lib.hid hBB
    clear hBB
    obtain ⟨b, hbj⟩ : ∃ b, bs[j]? = some b := by
      cases h : bs[j]? with
      | none => rw [h] at hj; simp at hj
      | some b => exact ⟨b, rfl⟩
    have hj12 : j < 12 := by
      have := (List.getElem?_eq_some_iff.1 hbj).1
      rw [HW.out.1] at this; exact this
    obtain ⟨k1, y1⟩ := b
    have e1 := hc.kind' hbj
    have e2 := hc.year' hbj
    have Hj := Lib.hid hbj
    have Hp := Lib.hid hp
    have Hc := Lib.hid hc
    have HB := Lib.hid hB
    have Hcr := Lib.hid hcr
    have Hfr := Lib.hid hfr
    clear hbj hp hc hB hcr hfr c1 c3 k0 k2
    dsimp only
    have hjj : Hid ((bs[j]?.any fun b => !eB b) = true) := hj
    have hlt := block_lt_of_cell Hcr.out
    have HL := Lib.hid hlt
    clear hlt
    gi_wp2_with fail
    refine ⟨trivial, (fun h => by cases h), ?_⟩
    refine (CallsIn.inRound l (callsIn_wide.2 (validBottle_any k1 y1 _))).mono ?_
    rintro e w1 ⟨rfl, hb1⟩
    have Hb1 := Lib.hid hb1
    have hcr1 : w1.cell? ⟨w.heap.size + 1, 0, none⟩ = some (.bool false) := (hb1.cell (p := ⟨w.heap.size + 1, 0, none⟩) HL.out).trans Hcr.out
    have hfr1 : w1.frozen? ⟨w.heap.size + 1, 0, none⟩ = false := (hb1.frozen (p := ⟨w.heap.size + 1, 0, none⟩) HL.out).trans Hfr.out
    clear hb1 e1 e2
    have HB1 : Hid (Below w.heap.size w w1) := HB.out.trans (Hb1.out.mono HB.out.size)
    cases hv : vB (k1, y1)
    · have Hv := Lib.hid hv
      clear hv
      gi_wp2
      exact ⟨(keepsOthers_of_below Hb1.out).trans (KeepsOthers.setCell _ _ _), ⟨rfl, ⟨⟨j, hjj.out⟩, List.mem_append.2 (.inr (by simp)), (k1, y1), Hj.out, Hv.out⟩, World.cell?_setCell_same' _ _ _ (by rw [hcr1]; rfl)⟩, HB1.out.setCell (p := ⟨w.heap.size + 1, 0, none⟩) (by show w.heap.size ≤ w.heap.size + 1; omega) _⟩
    · have Hv := Lib.hid hv
      clear hv
      gi_wp2
      refine ⟨keepsOthers_of_below Hb1.out, Hb1.out.mono HBB.out.size, ?_, HBB.out.trans (Hb1.out.mono HBB.out.size)⟩
      · intro i hi b hb
        rcases List.mem_append.1 hi with hi | hi
        · exact Hp.out i hi b hb
        · simp only [List.mem_singleton] at hi
          subst hi
          have := Hj.out
          rw [this] at hb
          cases hb
          exact Hv.out
  case done =>
    rintro D ys W hD rfl ⟨hp, hBB⟩ hK
    have hc := k0.below hBB k0.lt
    have hcr := (hBB.cell (p := ⟨w.heap.size + 1, 0, none⟩) (by show w.heap.size + 1 < W0.heap.size; omega)).trans c1.1
    have hfr := (hBB.frozen (p := ⟨w.heap.size + 1, 0, none⟩) (by show w.heap.size + 1 < W0.heap.size; omega)).trans c1.2
    have hB := hB0.trans (hBB.mono hB0.size)
    have HBB := Lib.hid hBB
    clear hBB
    have Hp := Lib.hid hp
    have HB := Lib.hid hB
    have HC := Lib.hid hc
    have HK := Lib.hid hK
    clear hp hB hc hK c1 c3 k0 k2
    gi_wp2
    have hK' := (KeepsOthers.setCell W ⟨w.heap.size + 1, 0, none⟩ (.bool true)).same D _ HK.out rfl
    refine ⟨by simp, .inl ⟨_, _, rfl, run_takeDeferred hK', ?_⟩⟩
    have hc5 := cell_kept (World.cell?_setCell_same' W ⟨w.heap.size + 1, 0, none⟩ (.bool true) (by rw [hcr]; rfl)) (grownBy_putObj' _ D (.deferred none)) (fun r e => by cases e; exact ⟨_, hK', rfl⟩)
    refine ⟨.bool true, ?_, by rw [okC_of_places (by rw [HW.out.1]; exact Hp.out)], (HB.out.setCell (p := ⟨w.heap.size + 1, 0, none⟩) (by show w.heap.size ≤ w.heap.size + 1; omega) _).trans (belowK_b (w := w) (Nat.le_refl _) _ D _ _ (by omega) hK' rfl rfl)⟩
    simp [results, Tryd.f103, go_sem, hc5]
  case stop =>
    rintro D c pre W hD hpre ⟨⟨rfl, ⟨j, _, b, hb, hv⟩, hcr⟩, hB⟩ hK
    have HB := Lib.hid hB
    have Hb := Lib.hid hb
    have Hv := Lib.hid hv
    clear hB hb hv c1 c3 k0 k2
    gi_wp2
    refine ⟨by simp, .inl ⟨_, _, rfl, run_takeDeferred hK, ?_⟩⟩
    have hc5 := cell_kept hcr (grownBy_putObj' _ D (.deferred none)) (fun r e => by cases e; exact ⟨_, hK, rfl⟩)
    refine ⟨.bool false, ?_, by rw [okC_of_bad Hb.out Hv.out], HB.out.trans (belowK_b (w := w) (Nat.le_refl _) W D _ _ (by omega) hK rfl rfl)⟩
    simp [results, Tryd.f103, go_sem, hc5]

theorem validCrate_any (bs : List Bot) (hwf : WfC bs) (w : World) : Calls Tryd.prog 103 #[.agg (ccells bs).toArray] w fun e w' => e = .returned (.bool (okC bs)) ∧ Below w.heap.size w w' :=
  callsIn_wide.1 (validCrate_in 6 (Nat.le_refl _) bs hwf w)
end Go.Proofs.YtcdhmlalpjcidaaDoor
