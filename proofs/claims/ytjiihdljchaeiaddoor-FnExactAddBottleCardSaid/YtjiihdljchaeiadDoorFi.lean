/-
  The contract of firstPlace, for whatever predicate. Condition: the crate's length, that its numbers fit their kinds, that the predicate answers as told, and that the sentinel errors lie as the row lists them.
-/
import Derived.Test.YtjiihdljchaeiadDoorJ
import Derived.Test.YtjiihdljchaeiadDoorE
import Derived.Test.YtjiihdljchaeiadDoorFp
import Derived.RegionIn
namespace Go.Proofs.YtjiihdljchaeiadDoor
open Go.RowKit Go.Shelf
attribute [local go_sem] Oper.semAt_some

/-- What firstPlace answers. -/
def fpV (ad : Nat → Addr) (p : Bot → Bool) (bs : List Bot) : Value := if fp p bs < 0 then .tuple #[.int .i64 0, errV (ad 4)] else .tuple #[.int .i64 (fp p bs), .nilIface]
theorem fpV_hit {ad : Nat → Addr} {p : Bot → Bool} {bs : List Bot} {k : Nat} (h : fp p bs = k) : fpV ad p bs = .tuple #[.int .i64 k, .nilIface] := by
  unfold fpV; rw [h, if_neg (by omega)]
theorem fpV_none {ad : Nat → Addr} {p : Bot → Bool} {bs : List Bot} (h : fp p bs = -1) : fpV ad p bs = .tuple #[.int .i64 0, errV (ad 4)] := by
  unfold fpV; rw [h, if_pos (by omega)]
theorem plTo_nil_of {bs : List Bot} {p : Bot → Bool} {k : Nat} (h : plTo bs p k = []) : FpTo p bs k := by
  intro j b hj hb
  cases hp : p b
  · rfl
  · have hy : (bs[j]?.any p) = true := by rw [hb]; exact hp
    have : (⟨j, hy⟩ : Pl bs p) ∈ plTo bs p k := plTo_mem.2 hj
    rw [h] at this; cases this
theorem plTo_first {bs : List Bot} {p : Bot → Bool} {j : Pl bs p} : ∀ {k : Nat}, [j] <+: plTo bs p k → FpTo p bs j.1
  | 0, h => by simp [plTo] at h
  | k + 1, h => by
    by_cases hk : (bs[k]?.any p) = true
    · rw [plTo_yes hk] at h
      cases hn : plTo bs p k with
      | nil =>
        rw [hn] at h
        have : j = ⟨k, hk⟩ := by simpa using h
        subst this
        exact plTo_nil_of hn
      | cons x xs =>
        rw [hn] at h
        have hx : j = x := by simpa using h
        exact plTo_first (k := k) (by rw [hn, hx]; exact ⟨xs, rfl⟩)
    · rw [plTo_no (by simpa using hk)] at h
      exact plTo_first h
theorem Fits.mono {P : Program} {n₀ n₁ : Nat} {w0 w1 : World} {g : Nat} {lb : Array Value} {p : Bot → Bool} (h : Fits P n₀ w0 g lb p) (hb : Below n₀ w0 w1) (hn : n₀ ≤ n₁) : Fits P n₁ w1 g lb p :=
  fun b W hw hB => h b W hw (hb.trans (hB.mono hn))

set_option maxRecDepth 100000 in
set_option maxHeartbeats 2000000 in
theorem firstPlace_in (n : Nat) (hn : 6 ≤ n) (bs : List Bot) (hwf : WfC bs) (p : Bot → Bool) (g : Nat) (lb : Array Value) (eg : ∀ args w, (callFunc g args).run Tryd.prog w = .ok (.enter g args) w) (ad : Nat → Addr) (w : World) (hE : EW 5 w ad) (hp : Fits Tryd.prog w.heap.size w g lb p) :
    CallsIn Fence.wide n Tryd.prog 31 #[.agg (ccells bs).toArray, .func (.func g) #[] lb] w fun e w' => e = .returned (fpV ad p bs) ∧ Below w.heap.size w w' := by
  have h1 : 1 ≤ n := by omega
  have HW := Lib.hid hwf
  have HE := Lib.hid hE
  have HP := Lib.hid hp
  clear hwf hE hp
  refine callsIn_of_wp_marks Tryd.func31 rfl trivial ?_ rfl
  simp only [Tryd.ntmps31, List.size_toArray, List.length_cons, List.length_nil, Nat.reduceAdd, Nat.reduceSub, Array.replicate_succ, Array.replicate_zero, List.push_toArray, List.append_toArray, List.nil_append, List.cons_append]
  have HL := Lib.hid (((CBlk.new w 28 bs).alloc (.cells #[.int .i64 0] 2)).alloc (.cells #[.nilIface] 49))
  gi_wp2_with (first
    | (refine wpListIn_load_rowC rfl 28 (.tmp 2) rfl w.heap.size rfl 28 _ (0, 0) _ HL.out Tryd.underlying28 rfl (size_of_crate Tryd.sizeCr _ HW.out.1) ?_)
    | (refine ⟨trivial, ?_⟩; gi_at_call 37; refine (callsIn_wide.2 (placesWith_any bs _ ⟨_, _, rfl⟩ _)).mono ?_; rintro e w' ⟨rfl, rfl⟩))
  clear HL
  obtain ⟨W0, hW0⟩ : ∃ W0, (((((w.alloc (Obj.cells (ccells bs).toArray 28)).alloc (Obj.cells #[Value.int .i64 0] 2)).alloc (Obj.cells #[Value.nilIface] 49)).alloc (Obj.cells (ccells bs).toArray 28)).alloc (Obj.cells #[Value.func (Fn.func g) #[] lb] 46)) = W0 := ⟨_, rfl⟩
  have hsz : W0.heap.size = w.heap.size + 1 + 1 + 1 + 1 + 1 := by rw [← hW0]; simp
  have k2 : CBlk W0 (w.heap.size + 1 + 1 + 1) 28 bs := by
    rw [← hW0]; refine CBlk.alloc ?_ _
    exact CBlk.new' (by simp) rfl
  have c1 : W0.cell? ⟨w.heap.size + 1, 0, none⟩ = some (.int .i64 0) ∧ W0.frozen? ⟨w.heap.size + 1, 0, none⟩ = false := by
    have q1 := new_cell (w.alloc (Obj.cells (ccells bs).toArray 28)) (.int .i64 0) 2
    simp only [World.size_alloc] at q1
    rw [← hW0]; exact ⟨old_cell _ (old_cell _ (old_cell _ q1.1)), old_frozen _ (old_cell _ (old_cell _ q1.1)) (old_frozen _ (old_cell _ q1.1) (old_frozen _ q1.1 q1.2))⟩
  have c2 : W0.cell? ⟨w.heap.size + 1 + 1, 0, none⟩ = some .nilIface ∧ W0.frozen? ⟨w.heap.size + 1 + 1, 0, none⟩ = false := by
    have q1 := new_cell ((w.alloc (Obj.cells (ccells bs).toArray 28)).alloc (Obj.cells #[Value.int .i64 0] 2)) .nilIface 49
    simp only [World.size_alloc] at q1
    rw [← hW0]; exact ⟨old_cell _ (old_cell _ q1.1), old_frozen _ (old_cell _ q1.1) (old_frozen _ q1.1 q1.2)⟩
  have c3 : W0.cell? ⟨w.heap.size + 1 + 1 + 1 + 1, 0, none⟩ = some (.func (.func g) #[] lb) := by
    have q3 := new_cell ((((w.alloc (Obj.cells (ccells bs).toArray 28)).alloc (Obj.cells #[Value.int .i64 0] 2)).alloc (Obj.cells #[Value.nilIface] 49)).alloc (Obj.cells (ccells bs).toArray 28)) (.func (.func g) #[] lb) 46
    simp only [World.size_alloc] at q3
    rw [← hW0]; exact q3.1
  have hB0 : Below w.heap.size w W0 := by rw [← hW0]; exact (by repeat (first | exact Below.refl _ _ | refine Below.drew ?_ | refine Below.alloc ?_ (by simp <;> omega) _ | refine Below.setCell ?_ (by simp <;> omega) _))
  rw [hW0]
  clear hW0
  refine wpIn_rangeFunc_ownF rfl h1 (gf := 40) (lb := #[.pointer (some ⟨w.heap.size + 1 + 1 + 1, 0, none⟩), .pointer (some ⟨w.heap.size + 1 + 1 + 1 + 1, 0, none⟩)]) rfl trivial (enters_of Tryd.func40 (by kernel_rfl) rfl)
    (places_stops bs HW.out p g lb eg (n - 1) (by omega) W0.heap.size (w.heap.size + 1 + 1 + 1) (w.heap.size + 1 + 1 + 1 + 1) W0 W0 (Below.refl _ _) (HP.out.mono hB0 hB0.size) (Nat.le_refl _) k2 (by omega) c3)
    belowK_t (belowK_b (Nat.le_refl _)) (Below.refl _ _) (fun _ => rfl)
    (fun pre W => pre = [] ∧ Below W0.heap.size W0 W)
    (fun c pre W => (c = .ret ∧ (∃ j, pre = [j] ∧ W.cell? ⟨w.heap.size + 1, 0, none⟩ = some (.int .i64 (j.1 : Int)) ∧ W.cell? ⟨w.heap.size + 1 + 1, 0, none⟩ = some .nilIface)) ∧ Below w.heap.size w W)
    (OwnFrom.and (ownFrom_pure _ _) (ownFrom_below (Nat.le_refl _) (Nat.le_refl _)))
    (fun c => OwnFrom.and (Own.from (fun s A B row hs hg hr => by
      obtain ⟨hc, j, hj, h1, h2⟩ := hs
      exact ⟨hc, j, hj, cell_kept h1 hg hr, cell_kept h2 hg hr⟩) _) (ownFrom_below (Nat.le_refl _) (by omega)))
    ⟨rfl, Below.refl _ _⟩
    (fun x => { tmps := #[.agg (ccells bs).toArray, .func (.func g) #[] lb, .pointer (some ⟨w.heap.size, 0, none⟩), undef, .pointer (some ⟨w.heap.size + 1, 0, none⟩), .pointer (some ⟨w.heap.size + 1 + 1, 0, none⟩), .int .i64 (x.1 : Int), .agg (ccells bs).toArray, .func (.func g) #[] lb,
      .func (.func 40) #[] #[.pointer (some ⟨w.heap.size + 1 + 1 + 1, 0, none⟩), .pointer (some ⟨w.heap.size + 1 + 1 + 1 + 1, 0, none⟩)], .int .i64 (x.1 : Int), undef, undef], defers := [] }) ?assign ?body ?done ?stop
  case assign =>
    intro l x W K hK
    gi_wp2
    exact hK
  case body =>
    rintro l pre ⟨j, hj⟩ W ⟨rfl, hBB⟩ _
    have hc1 := (hBB.cell (p := ⟨w.heap.size + 1, 0, none⟩) (by show w.heap.size + 1 < W0.heap.size; omega)).trans c1.1
    have hf1 := (hBB.frozen (p := ⟨w.heap.size + 1, 0, none⟩) (by show w.heap.size + 1 < W0.heap.size; omega)).trans c1.2
    have hc2 := (hBB.cell (p := ⟨w.heap.size + 1 + 1, 0, none⟩) (by show w.heap.size + 1 + 1 < W0.heap.size; omega)).trans c2.1
    have hf2 := (hBB.frozen (p := ⟨w.heap.size + 1 + 1, 0, none⟩) (by show w.heap.size + 1 + 1 < W0.heap.size; omega)).trans c2.2
    have hB := hB0.trans (hBB.mono hB0.size)
    have HB := Lib.hid hB
    clear hBB hB c1 c2 c3 k2
    dsimp only
    have hjj : Hid ((bs[j]?.any p) = true) := hj
    gi_wp2
    refine ⟨(KeepsOthers.setCell _ _ _).trans (KeepsOthers.setCell _ _ _), ⟨rfl, ⟨j, hjj.out⟩, rfl, ?_, ?_⟩, (HB.out.setCell (p := ⟨w.heap.size + 1, 0, none⟩) (by show w.heap.size ≤ w.heap.size + 1; omega) _).setCell (p := ⟨w.heap.size + 1 + 1, 0, none⟩) (by show w.heap.size ≤ w.heap.size + 1 + 1; omega) _⟩
    · rw [World.cell?_setCell_far _ _ _ _ (by show w.heap.size + 1 + 1 ≠ w.heap.size + 1; omega)]
      exact World.cell?_setCell_same' _ _ _ (by rw [hc1]; rfl)
    · refine World.cell?_setCell_same' _ _ _ ?_
      rw [World.cell?_setCell_far _ _ _ _ (by show w.heap.size + 1 ≠ w.heap.size + 1 + 1; omega), hc2]; rfl
  case done =>
    rintro D ys W hD rfl ⟨hpre, hBB⟩ hK
    have hc1 := (hBB.cell (p := ⟨w.heap.size + 1, 0, none⟩) (by show w.heap.size + 1 < W0.heap.size; omega)).trans c1.1
    have hf1 := (hBB.frozen (p := ⟨w.heap.size + 1, 0, none⟩) (by show w.heap.size + 1 < W0.heap.size; omega)).trans c1.2
    have hc2 := (hBB.cell (p := ⟨w.heap.size + 1 + 1, 0, none⟩) (by show w.heap.size + 1 + 1 < W0.heap.size; omega)).trans c2.1
    have hf2 := (hBB.frozen (p := ⟨w.heap.size + 1 + 1, 0, none⟩) (by show w.heap.size + 1 + 1 < W0.heap.size; omega)).trans c2.2
    have hB := hB0.trans (hBB.mono hB0.size)
    have hg := (HE.out.below hB (Nat.le_refl _)).cell 4 (by omega)
    have hgl : W.cell? ⟨1, 0, none⟩ = some (.iface 81 (.pointer (some (ad 4)))) := hg
    have Hp := Lib.hid hpre
    have HB := Lib.hid hB
    have HK := Lib.hid hK
    clear hBB hB hK c1 c2 c3 k2 hg hpre
    gi_wp2_with fail
    have hg2 : (W.setCell ⟨w.heap.size + 1, 0, none⟩ (.int .i64 0)).cell? ⟨1, 0, none⟩ = some (.iface 81 (.pointer (some (ad 4)))) := by
      rw [World.cell?_setCell_far _ _ _ _ ?_]
      · exact hgl
      · have := block_lt_of_cell (HE.out.cell 4 (by omega))
        show w.heap.size + 1 ≠ 1
        have h5 : 1 < w.heap.size := this
        omega
    gi_region
    gi_wp2
    have hK' := (((KeepsOthers.setCell W ⟨w.heap.size + 1, 0, none⟩ (.int .i64 0)).trans (KeepsOthers.setCell _ ⟨w.heap.size + 1 + 1, 0, none⟩ (.iface 81 (.pointer (some (ad 4)))))).same D _ HK.out rfl)
    have hE1 : (W.setCell ⟨w.heap.size + 1, 0, none⟩ (.int .i64 0)).cell? ⟨w.heap.size + 1, 0, none⟩ = some (.int .i64 0) := World.cell?_setCell_same' _ _ _ (by rw [hc1]; rfl)
    have hE2 : ((W.setCell ⟨w.heap.size + 1, 0, none⟩ (.int .i64 0)).setCell ⟨w.heap.size + 1 + 1, 0, none⟩ (.iface 81 (.pointer (some (ad 4))))).cell? ⟨w.heap.size + 1, 0, none⟩ = some (.int .i64 0) := by
      rw [World.cell?_setCell_far _ _ _ _ (by show w.heap.size + 1 + 1 ≠ w.heap.size + 1; omega)]; exact hE1
    have hE3 : ((W.setCell ⟨w.heap.size + 1, 0, none⟩ (.int .i64 0)).setCell ⟨w.heap.size + 1 + 1, 0, none⟩ (.iface 81 (.pointer (some (ad 4))))).cell? ⟨w.heap.size + 1 + 1, 0, none⟩ = some (.iface 81 (.pointer (some (ad 4)))) := by
      refine World.cell?_setCell_same' _ _ _ ?_
      rw [World.cell?_setCell_far _ _ _ _ (by show w.heap.size + 1 ≠ w.heap.size + 1 + 1; omega), hc2]; rfl
    have hB2 : Below w.heap.size w ((W.setCell ⟨w.heap.size + 1, 0, none⟩ (.int .i64 0)).setCell ⟨w.heap.size + 1 + 1, 0, none⟩ (.iface 81 (.pointer (some (ad 4))))) := (HB.out.setCell (p := ⟨w.heap.size + 1, 0, none⟩) (by show w.heap.size ≤ w.heap.size + 1; omega) _).setCell (p := ⟨w.heap.size + 1 + 1, 0, none⟩) (by show w.heap.size ≤ w.heap.size + 1 + 1; omega) _
    obtain ⟨W2, hW2⟩ : ∃ W2, (W.setCell ⟨w.heap.size + 1, 0, none⟩ (.int .i64 0)).setCell ⟨w.heap.size + 1 + 1, 0, none⟩ (.iface 81 (.pointer (some (ad 4)))) = W2 := ⟨_, rfl⟩
    rw [hW2] at hK' hE2 hE3 hB2 ⊢
    clear hW2 hE1 hg2 hgl
    have hK2 : W2.drew.heap[D]? = some (.deferred (some [])) := hK'
    refine ⟨by simp, .inl ⟨_, _, rfl, run_takeDeferred hK2, ?_⟩⟩
    have hd1 : (W2.drew.putObj D (.deferred none)).cell? ⟨w.heap.size + 1, 0, none⟩ = some (.int .i64 0) := cell_kept (W := W2.drew) hE2 (grownBy_putObj' _ D (.deferred none)) (fun r e => by cases e; exact ⟨_, hK2, rfl⟩)
    have hd2 : (W2.drew.putObj D (.deferred none)).cell? ⟨w.heap.size + 1 + 1, 0, none⟩ = some (.iface 81 (.pointer (some (ad 4)))) := cell_kept (W := W2.drew) hE3 (grownBy_putObj' _ D (.deferred none)) (fun r e => by cases e; exact ⟨_, hK2, rfl⟩)
    refine ⟨.tuple #[.int .i64 0, .iface 81 (.pointer (some (ad 4)))], ?_, by rw [fpV_none (fp_none (by rw [HW.out.1]; exact plTo_nil_of Hp.out))]; rfl, hB2.drew.trans (belowK_b (w := w) (Nat.le_refl _) W2.drew D _ _ (by omega) hK2 rfl rfl)⟩
    simp [results, Tryd.f31, go_sem, hd1, hd2]
  case stop =>
    rintro D c pre W hD hpre ⟨⟨rfl, j, rfl, hc1, hc2⟩, hB⟩ hK
    have HB := Lib.hid hB
    have Hpre := Lib.hid hpre
    clear hB c1 c2 c3 hpre
    gi_wp2
    refine ⟨by simp, .inl ⟨_, _, rfl, run_takeDeferred hK, ?_⟩⟩
    have hd1 := cell_kept hc1 (grownBy_putObj' _ D (.deferred none)) (fun r e => by cases e; exact ⟨_, hK, rfl⟩)
    have hd2 := cell_kept hc2 (grownBy_putObj' _ D (.deferred none)) (fun r e => by cases e; exact ⟨_, hK, rfl⟩)
    obtain ⟨b, hb, hpb⟩ : ∃ b, bs[j.1]? = some b ∧ p b = true := by
      have := j.2
      cases h : bs[j.1]? with
      | none => rw [h] at this; simp at this
      | some b => rw [h] at this; exact ⟨b, rfl, by simpa using this⟩
    refine ⟨.tuple #[.int .i64 (j.1 : Int), .nilIface], ?_, by rw [fpV_hit (fp_hit (plTo_first Hpre.out) hb hpb)], HB.out.trans (belowK_b (w := w) (Nat.le_refl _) W D _ _ (by omega) hK rfl rfl)⟩
    simp [results, Tryd.f31, go_sem, hd1, hd2]
end Go.Proofs.YtjiihdljchaeiadDoor
