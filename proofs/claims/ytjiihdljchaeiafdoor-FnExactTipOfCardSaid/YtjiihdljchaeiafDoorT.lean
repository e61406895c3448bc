/-
  The contracts of TipOf, of the model and of the program. Condition: the sentinel errors lie as the row lists them.
-/
import Derived.Test.YtjiihdljchaeiafDoorU
import Derived.Test.YtjiihdljchaeiafDoorQ
import Derived.RegionIn
namespace Go.Proofs.YtjiihdljchaeiafDoor
open Go.RowKit Go.Shelf
attribute [local go_sem] Oper.semAt_some

def tipE (bs : List Bot) : Int := eastL (usedN bs (fun b => !eB b) 12)
def tipS (bs : List Bot) : Int := southL (usedN bs (fun b => !eB b) 12)
theorem ret3_i64 {a b c a' b' c' : Int} (h : a = a') (h' : b = b') (h'' : c = c') : Ending.returned (.tuple #[.int .i64 a, .int .i64 b, .int .i64 c]) = .returned (.tuple #[.int .i64 a', .int .i64 b', .int .i64 c']) := by rw [h, h', h'']
def tipV (bs : List Bot) (ok : Bool) : Value := if ok = true then .tuple #[.int .i64 (tipE bs), .int .i64 (tipS bs), .int .i64 0] else .tuple #[.int .i64 0, .int .i64 0, .int .i64 1]

theorem specTip_any (bs : List Bot) (hwf : WfC bs) (w : World) : Calls Tryd.prog 7 #[.agg (ccells bs).toArray] w fun e w' => e = .returned (tipV bs (okC bs)) ∧ Below w.heap.size w w' := by
  have HW := Lib.hid hwf
  clear hwf
  have H1 := Lib.hid (CBlk.new w 30 bs)
  have HB0 : Hid (Below w.heap.size w (w.alloc (.cells (ccells bs).toArray 30))) := (Below.refl _ w).alloc (Nat.le_refl _) _
  go_enter Tryd.func7, Tryd.ntmps7
  go_wp2_with fail
  refine (l01Ok_any bs HW.out _ _ H1.out).mono ?_
  rintro e w1 ⟨rfl, hb1⟩
  have HB1 : Hid (Below w.heap.size w w1) := HB0.out.trans (hb1.mono HB0.out.size)
  have H2 : Hid (CBlk w1 w.heap.size 30 bs) := H1.out.below hb1 H1.out.lt
  clear hb1 H1 HB0
  cases hv : okC bs
  · have Hv := Lib.hid hv
    clear hv
    go_wp2
    go_ret3
    exact ⟨by rw [Hv.out]; rfl, HB1.out⟩
  · have Hv := Lib.hid hv
    clear hv
    go_wp2_with fail
    refine (l01Used_any bs HW.out _ _ H2.out).mono ?_
    rintro e w2 ⟨v, rfl, ho, hb2⟩
    have HO := Lib.hid ho
    have HB2 : Hid (Below w.heap.size w w2) := HB1.out.trans (hb2.mono HB1.out.size)
    clear ho hb2
    go_wp2_with fail
    refine (l01Tip_any _ (fun p hp => usedN_lt p hp) (usedN_length _ _ _) _ v _ HO.out).mono ?_
    rintro e w3 ⟨rfl, rfl⟩
    go_wp2
    go_ret3
    exact ⟨by rw [Hv.out]; rfl, HB2.out⟩

/-- The numbers of what has come. -/
def vals {bs : List Bot} {p : Bot → Bool} (pre : List (Pl bs p)) : List Nat := pre.map (·.1)
theorem vals_snoc {bs : List Bot} {p : Bot → Bool} (pre : List (Pl bs p)) (x : Pl bs p) : vals (pre ++ [x]) = vals pre ++ [x.1] := by simp [vals]
theorem vals_length {bs : List Bot} {p : Bot → Bool} (pre : List (Pl bs p)) : (vals pre).length = pre.length := by simp [vals]
theorem vals_lt {bs : List Bot} {p : Bot → Bool} (hl : bs.length = 12) (pre : List (Pl bs p)) : ∀ j ∈ vals pre, j < 12 := by
  intro j hj
  obtain ⟨x, _, rfl⟩ := List.mem_map.1 hj
  exact pl_lt hl x

set_option maxRecDepth 100000 in
set_option maxHeartbeats 2000000 in
theorem tipAt_in (n : Nat) (hn : 6 ≤ n) (bs : List Bot) (hwf : WfC bs) (Bc Bf : Nat) (w : World) (hc : CBlk w Bc 30 bs) (hf : w.cell? ⟨Bf, 0, none⟩ = some (.func (.func 27) #[] #[])) :
    CallsIn Fence.wide n Tryd.prog 25 #[.func (.func 39) #[] #[.pointer (some ⟨Bc, 0, none⟩), .pointer (some ⟨Bf, 0, none⟩)]] w
      fun e w' => e = .returned (.tuple #[.int .i64 (tipE bs), .int .i64 (tipS bs)]) ∧ Below w.heap.size w w' := by
  have h1 : 1 ≤ n := by omega
  have HW := Lib.hid hwf
  have HC := Lib.hid hc
  have HF := Lib.hid hf
  clear hwf hc hf
  refine callsIn_of_wp_marks Tryd.func25 rfl trivial ?_ rfl
  simp only [Tryd.ntmps25, List.size_toArray, List.length_cons, List.length_nil, Nat.reduceAdd, Nat.reduceSub, Array.replicate_succ, Array.replicate_zero, List.push_toArray, List.append_toArray, List.nil_append, List.cons_append]
  gi_wp2
  obtain ⟨W0, hW0⟩ : ∃ W0, (w.alloc (.cells #[.int .i64 0] 2)).alloc (.cells #[.int .i64 0] 2) = W0 := ⟨_, rfl⟩
  have hsz : W0.heap.size = w.heap.size + 1 + 1 := by rw [← hW0]; simp
  have q0 := new_cell w (.int .i64 0) 2
  have q1 := new_cell (w.alloc (.cells #[.int .i64 0] 2)) (.int .i64 0) 2
  simp only [World.size_alloc] at q1
  have c0 : W0.cell? ⟨w.heap.size, 0, none⟩ = some (.int .i64 0) ∧ W0.frozen? ⟨w.heap.size, 0, none⟩ = false := by rw [← hW0]; exact ⟨old_cell _ q0.1, old_frozen _ q0.1 q0.2⟩
  have c1 : W0.cell? ⟨w.heap.size + 1, 0, none⟩ = some (.int .i64 0) ∧ W0.frozen? ⟨w.heap.size + 1, 0, none⟩ = false := by rw [← hW0]; exact q1
  have hB0 : Below w.heap.size w W0 := by rw [← hW0]; exact (by repeat (first | exact Below.refl _ _ | refine Below.drew ?_ | refine Below.alloc ?_ (by simp <;> omega) _ | refine Below.setCell ?_ (by simp <;> omega) _))
  have hcW := HC.out.below hB0 HC.out.lt
  have hlf := block_lt_of_cell HF.out
  have hfW := (hB0.cell (p := ⟨Bf, 0, none⟩) hlf).trans HF.out
  rw [hW0]
  clear hW0 q0 q1
  refine wpIn_rangeFunc_ownF rfl h1 (gf := 39) (lb := #[.pointer (some ⟨Bc, 0, none⟩), .pointer (some ⟨Bf, 0, none⟩)]) rfl trivial (enters_of Tryd.func39 (by kernel_rfl) rfl)
    (places_stops bs HW.out (fun b => !eB b) 27 #[] (enters_of Tryd.func27 (by kernel_rfl) rfl) (n - 1) (by omega) w.heap.size Bc Bf W0 W0 (Below.refl _ _) (isBottle_fits _ _) (by omega) hcW hlf hfW)
    belowK_t (belowK_b (by omega)) (Below.refl _ _) (fun _ => rfl)
    (fun pre W => (W.cell? ⟨w.heap.size, 0, none⟩ = some (.int .i64 (eastL (vals pre))) ∧ W.frozen? ⟨w.heap.size, 0, none⟩ = false ∧ W.cell? ⟨w.heap.size + 1, 0, none⟩ = some (.int .i64 (southL (vals pre))) ∧ W.frozen? ⟨w.heap.size + 1, 0, none⟩ = false) ∧ Below w.heap.size w W)
    (fun _ _ _ => False)
    (OwnFrom.and (Own.from (fun s A B row hs hg hr => ⟨cell_kept hs.1 hg hr, (frozen_kept hs.1 hg hr).trans hs.2.1, cell_kept hs.2.2.1 hg hr, (frozen_kept hs.2.2.1 hg hr).trans hs.2.2.2⟩) _) (ownFrom_below (Nat.le_refl _) (by omega)))
    (fun _ _ _ _ _ hs _ _ => hs)
    ⟨⟨c0.1, c0.2, c1.1, c1.2⟩, hB0⟩
    (fun x => { tmps := #[.func (.func 39) #[] #[.pointer (some ⟨Bc, 0, none⟩), .pointer (some ⟨Bf, 0, none⟩)], undef, .int .i64 0, .int .i64 0, .pointer (some ⟨w.heap.size, 0, none⟩), .pointer (some ⟨w.heap.size + 1, 0, none⟩), .int .i64 (x.1 : Int),
      .func (.func 39) #[] #[.pointer (some ⟨Bc, 0, none⟩), .pointer (some ⟨Bf, 0, none⟩)], .int .i64 (x.1 : Int), undef, undef, undef, undef, undef, undef, undef, undef, undef, undef, undef, undef, undef], defers := [] }) ?assign ?body ?done ?stop
  case assign =>
    intro l x W K hK
    gi_wp2
    exact hK
  case body =>
    rintro l pre ⟨j, hj⟩ W ⟨⟨a1, a2, b1, b2⟩, hB⟩ hlen
    have hj12 : j < 12 := pl_lt HW.out.1 ⟨j, hj⟩
    have htb := tip_bounds (vals pre) (vals_lt HW.out.1 pre)
    rw [vals_length] at htb
    obtain ⟨E, hE⟩ : ∃ E, eastL (vals pre) = E := ⟨_, rfl⟩
    obtain ⟨S, hS⟩ : ∃ S, southL (vals pre) = S := ⟨_, rfl⟩
    rw [hE] at a1 htb
    rw [hS] at b1 htb
    have e1 : -36 ≤ E ∧ E ≤ 36 ∧ -36 ≤ S ∧ S ≤ 36 := by omega
    obtain ⟨x1, x2, x3, x4⟩ := e1
    have HE : Hid (eastL (vals (pre ++ [⟨j, hj⟩])) = E + (2 * ((j : Int) % 4) - 3)) := by show eastL _ = _; rw [vals_snoc, eastL_snoc, hE]
    have HS : Hid (southL (vals (pre ++ [⟨j, hj⟩])) = S + ((j : Int) / 4 - 1)) := by show southL _ = _; rw [vals_snoc, southL_snoc, hS]
    have HB := Lib.hid hB
    clear htb hE hS hB c0 c1 hlen
    gi_wp2
    refine ⟨(KeepsOthers.setCell _ _ _).trans (KeepsOthers.setCell _ _ _), ((Below.refl w.heap.size W).setCell (p := ⟨w.heap.size, 0, none⟩) (Nat.le_refl _) _).setCell (p := ⟨w.heap.size + 1, 0, none⟩) (Nat.le_succ _) _, ⟨?_, ?_, ?_, ?_⟩,
      (HB.out.setCell (p := ⟨w.heap.size, 0, none⟩) (Nat.le_refl _) _).setCell (p := ⟨w.heap.size + 1, 0, none⟩) (Nat.le_succ _) _⟩
    · rw [HE.out, World.cell?_setCell_other _ _ _ _ (by intro e; injection e with e; omega)]
      exact World.cell?_setCell_same' _ _ _ (by rw [a1]; rfl)
    · rw [World.frozen?_setCell, World.frozen?_setCell]; exact a2
    · rw [HS.out]
      exact World.cell?_setCell_same' _ _ _ (by rw [World.cell?_setCell_other _ _ _ _ (by intro e; injection e with e; omega), b1]; rfl)
    · rw [World.frozen?_setCell, World.frozen?_setCell]; exact b2
  case done =>
    rintro D ys W hD rfl ⟨⟨a1, a2, b1, b2⟩, hB⟩ hK
    have HB := Lib.hid hB
    clear hB c0 c1
    gi_wp2
    gi_region
    all_goals gi_wp2
    have hK' : W.drew.heap[D]? = some (.deferred (some [])) := hK
    refine ⟨by simp, .inl ⟨_, _, rfl, run_takeDeferred hK', ?_⟩⟩
    refine ⟨.tuple #[.int .i64 (tipE bs), .int .i64 (tipS bs)], ?_, rfl, HB.out.drew.trans (belowK_b (w := w) (Nat.le_refl _) _ D _ _ (by omega) hK' rfl rfl)⟩
    simp [results, Tryd.f25, go_sem, tipE, tipS, usedN, vals]
  case stop =>
    rintro D c pre W _ _ h _
    exact h.elim

theorem tipAt_any (bs : List Bot) (hwf : WfC bs) (Bc Bf : Nat) (w : World) (hc : CBlk w Bc 30 bs) (hf : w.cell? ⟨Bf, 0, none⟩ = some (.func (.func 27) #[] #[])) :
    Calls Tryd.prog 25 #[.func (.func 39) #[] #[.pointer (some ⟨Bc, 0, none⟩), .pointer (some ⟨Bf, 0, none⟩)]] w
      fun e w' => e = .returned (.tuple #[.int .i64 (tipE bs), .int .i64 (tipS bs)]) ∧ Below w.heap.size w w' := callsIn_wide.1 (tipAt_in 6 (Nat.le_refl _) bs hwf Bc Bf w hc hf)

set_option maxRecDepth 100000 in
set_option maxHeartbeats 1000000 in
theorem implTip_any (bs : List Bot) (hwf : WfC bs) (ad : Nat → Addr) (w : World) (hE : EW 7 w ad) : Calls Tryd.prog 9 #[.agg (ccells bs).toArray] w fun e w' => e = .returned (tipV bs (okC bs)) ∧ Below w.heap.size w w' := by
  have HW := Lib.hid hwf
  have HE := Lib.hid hE
  clear hwf hE
  have H1 := Lib.hid (CBlk.new w 30 bs)
  have HB0 : Hid (Below w.heap.size w (w.alloc (.cells (ccells bs).toArray 30))) := (Below.refl _ w).alloc (Nat.le_refl _) _
  go_enter Tryd.func9, Tryd.ntmps9
  go_wp2_with (first
    | (refine wpList_load_row rfl 30 (.tmp 1) rfl w.heap.size rfl 30 _ (0, 0) _ H1.out Tryd.underlying30 rfl (size_of_crate Tryd.sizeCr _ HW.out.1) ?_)
    | (refine wpList_oneCrate rfl 70 30 (.tmp 8) rfl bs HW.out.1 rfl Tryd.underlying70 Tryd.sizeCr Tryd.zeroCr ?_))
  obtain ⟨W0, hW0⟩ : ∃ W0, (w.alloc (.cells (ccells bs).toArray 30)).alloc (.cells (ccells bs).toArray 30) = W0 := ⟨_, rfl⟩
  have hB0 : Below w.heap.size w W0 := by rw [← hW0]; exact (by repeat (first | exact Below.refl _ _ | refine Below.drew ?_ | refine Below.alloc ?_ (by simp <;> omega) _ | refine Below.setCell ?_ (by simp <;> omega) _))
  have k0 : CBlk W0 w.heap.size 30 bs := by rw [← hW0]; exact CBlk.alloc H1.out _
  have k1 : CBlk W0 (w.heap.size + 1) 30 bs := by rw [← hW0]; exact CBlk.new' (by simp) rfl
  rw [hW0]
  have HBW := Lib.hid hB0
  have K0 := Lib.hid k0
  have K1 := Lib.hid k1
  clear hW0 hB0 k0 k1 H1 HB0
  refine (checkOne_any bs HW.out _ _ ad _ K1.out (HE.out.below HBW.out (Nat.le_refl _))).mono ?_
  rintro e w1 ⟨rfl, hb1⟩
  have HB1 : Hid (Below w.heap.size w w1) := HBW.out.trans (hb1.mono HBW.out.size)
  have K2 : Hid (CBlk w1 w.heap.size 30 bs) := K0.out.below hb1 K0.out.lt
  clear hb1 K0 K1 HBW
  cases hv : okC bs
  · have Hv := Lib.hid hv
    have e1 : chkV ad false = .iface 100 (.pointer (some (ad 5))) := rfl
    rw [e1]
    clear hv e1
    go_wp2_with fail
    refine (codeOf_5 (HE.out.below HB1.out (Nat.le_refl _))).mono ?_
    rintro e w2 ⟨rfl, rfl⟩
    go_wp2
    go_ret3
    exact ⟨by rw [Hv.out]; rfl, HB1.out⟩
  · have Hv := Lib.hid hv
    have e1 : chkV ad true = .nilIface := rfl
    rw [e1]
    clear hv e1
    go_wp2_with (refine wpList_load_row rfl 30 (.tmp 1) rfl w.heap.size rfl 30 _ (0, 0) _ K2.out Tryd.underlying30 rfl (size_of_crate Tryd.sizeCr _ HW.out.1) ?_)
    refine (placesWith_any bs _ ⟨_, _, rfl⟩ _).mono ?_
    rintro e w2 ⟨rfl, hw2⟩
    have hB2 : Below w1.heap.size w1 w2 := by rw [hw2]; exact (by repeat (first | exact Below.refl _ _ | refine Below.drew ?_ | refine Below.alloc ?_ (by simp <;> omega) _ | refine Below.setCell ?_ (by simp <;> omega) _))
    have k1 : CBlk w2 w1.heap.size 30 bs := by rw [hw2]; exact (CBlk.new w1 _ bs).alloc _
    have k2 : w2.cell? ⟨w1.heap.size + 1, 0, none⟩ = some (.func (.func 27) #[] #[]) := by
      have q := new_cell (w1.alloc (.cells (ccells bs).toArray 30)) (.func (.func 27) #[] #[]) 59
      simp only [World.size_alloc] at q
      rw [hw2]; exact q.1
    have HB2 : Hid (Below w.heap.size w w2) := HB1.out.trans (hB2.mono HB1.out.size)
    have K3 := Lib.hid k1
    have K4 := Lib.hid k2
    clear hw2 hB2 k1 k2
    go_wp2_with fail
    refine (tipAt_any bs HW.out _ _ _ K3.out K4.out).mono ?_
    rintro e w3 ⟨rfl, hb3⟩
    have HB3 : Hid (Below w.heap.size w w3) := HB2.out.trans (hb3.mono HB2.out.size)
    clear hb3
    go_wp2
    go_ret3
    exact ⟨by rw [Hv.out]; rfl, HB3.out⟩
end Go.Proofs.YtjiihdljchaeiafDoor
