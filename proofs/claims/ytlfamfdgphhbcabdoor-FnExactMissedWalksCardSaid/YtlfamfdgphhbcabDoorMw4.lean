/-
  The contracts of the laws' mark and held over rows of pairs of numbers. Condition: the list's cells lie in one block; the numbers are small enough for an int.
-/
import Derived.Test.YtlfamfdgphhbcabDoorL
import Derived.Test.YtlfamfdgphhbcabDoorMw0
import Derived.Test.YtlfamfdgphhbcabDoorGk
namespace Go.Proofs.YtlfamfdgphhbcabDoor
open Go.ChangeShapes Go.WideShapes Go.ChangeAt Go.RowKit Go.Deep

theorem mwL_len (r : List Int) (l : List Wal) (d : Int) (s : List Int) : (mwL r l d s).length ≤ 3208 := by
  cases ho : mwO r l d s with
  | some i => rw [(mw_bad ho).2]; simp
  | none =>
    obtain ⟨h0, h1, hy, hv, -, -, hd0, hd4⟩ := mw_ok ho
    have h8 := (vsOk_out hv).2.1
    have := mwT_len r.length (tnA r.length l (fun x => unD x d) r l.length) s l d hd4 l.length
    rw [h1]; omega
set_option maxRecDepth 100000 in
set_option maxHeartbeats 2000000 in
theorem eqA2_same (p : P2) (w : World) : Calls Tryd.prog 56 #[.agg #[.int .i64 p.1, .int .i64 p.2], .agg #[.int .i64 p.1, .int .i64 p.2]] w fun e w' => e = .returned (.bool true) ∧ Below w.heap.size w w' := by
  obtain ⟨x, y⟩ := p
  dsimp only
  have hK0 : Blk ((w.alloc (.cells #[.int .i64 x, .int .i64 y] 83)).alloc (.cells #[.int .i64 x, .int .i64 y] 83)) w.heap.size 83 #[.int .i64 x, .int .i64 y] := (Blk.new w _ _).alloc _
  have hK1 : Blk ((w.alloc (.cells #[.int .i64 x, .int .i64 y] 83)).alloc (.cells #[.int .i64 x, .int .i64 y] 83)) (w.heap.size + 1) 83 #[.int .i64 x, .int .i64 y] := by
    have := Blk.new (w.alloc (.cells #[.int .i64 x, .int .i64 y] 83)) 83 #[.int .i64 x, .int .i64 y]
    simpa using this
  have hB : Below w.heap.size w ((w.alloc (.cells #[.int .i64 x, .int .i64 y] 83)).alloc (.cells #[.int .i64 x, .int .i64 y] 83)) := by
    have q : Below w.heap.size w (w.alloc (.cells #[.int .i64 x, .int .i64 y] 83)) := (Below.refl _ w).alloc (Nat.le_refl _) _
    exact q.alloc q.size _
  have HK0 := Lib.hid hK0
  have HK1 := Lib.hid hK1
  have HB := Lib.hid hB
  clear hK0 hK1 hB
  go_enter Tryd.func56, Tryd.ntmps56
  go_wp2_with fail
  go_loopw [5] (fun i wr => ∃ (k : Nat), k ≤ 2 ∧ i = .int .i64 k ∧ Blk wr w.heap.size 83 #[.int .i64 x, .int .i64 y] ∧ Blk wr (w.heap.size + 1) 83 #[.int .i64 x, .int .i64 y] ∧ Below w.heap.size w wr)
    (fun i _ => 2 - (intOf i).toNat)
  case atStart => exact ⟨0, by omega, rfl, HK0.out, HK1.out, HB.out⟩
  case round =>
    clear HK0 HK1 HB
    obtain ⟨k, hk, rfl, hK0, hK1, hB⟩ := hrel
    have HK0 := Lib.hid hK0
    have HK1 := Lib.hid hK1
    have HB := Lib.hid hB
    have e0 : wr.cell? ⟨w.heap.size, 0, none⟩ = some (.int .i64 x) := hK0.cell 0
    have e1 : wr.cell? ⟨w.heap.size, 1, none⟩ = some (.int .i64 y) := hK0.cell 1
    have e2 : wr.cell? ⟨w.heap.size + 1, 0, none⟩ = some (.int .i64 x) := hK1.cell 0
    have e3 : wr.cell? ⟨w.heap.size + 1, 1, none⟩ = some (.int .i64 y) := hK1.cell 1
    clear hK0 hK1 hB
    have hc : k = 0 ∨ k = 1 ∨ k = 2 := by omega
    rcases hc with rfl | rfl | rfl
    · go_wp2_with fail
      go_region
      go_wp2
      go_roundw
      case rel => exact ⟨1, by omega, by go_num, HK0.out, HK1.out, HB.out.drew⟩
      case measure => simp [intOf]
    · go_wp2_with fail
      go_region
      go_wp2
      go_roundw
      case rel => exact ⟨2, by omega, by go_num, HK0.out, HK1.out, HB.out.drew⟩
      case measure => simp [intOf]
    · go_wp2
      go_ret
      exact ⟨rfl, HB.out⟩
theorem Tryd.sizeP2 : (Tryd.prog.info? 83).map (·.size) = some 2 := by kernel_rfl
set_option maxRecDepth 100000 in
set_option maxHeartbeats 1000000 in
theorem eqInt64A2S_same (xs : List P2) (A B : Option Addr) (c d : Nat) (w : World) (hl : xs.length ≤ 4611686018427387904) (hA : Rd w w.heap.size p2cells A xs) (hB : Rd w w.heap.size p2cells B xs) :
    Calls Tryd.prog 19 #[.slice A xs.length c, .slice B xs.length d] w fun e w' => e = .returned (.bool true) ∧ Below w.heap.size w w' := by
  have HA := Lib.hid hA
  have HB := Lib.hid hB
  clear hA hB
  go_enter Tryd.func19, Tryd.ntmps19
  go_wp2_with fail
  go_loopw [5] (fun i wr => ∃ (k : Nat), k ≤ xs.length ∧ i = .int .i64 k ∧ Below w.heap.size w wr)
    (fun i _ => xs.length - (intOf i).toNat)
  case atStart => exact ⟨0, by omega, rfl, Below.refl _ _⟩
  case round =>
    obtain ⟨k, hk, rfl, hT⟩ := hrel
    have HT := Lib.hid hT
    clear hT
    by_cases hlt : k < xs.length
    · obtain ⟨x, hx⟩ : ∃ x, xs[k]? = some x := ⟨_, List.getElem?_eq_getElem hlt⟩
      obtain ⟨b, o, rfl, hbl, hrow⟩ := (HA.out.below (Nat.le_refl _) HT.out).at_ p2cells_length hx
      obtain ⟨b', o', rfl, hbl', hrow'⟩ := (HB.out.below (Nat.le_refl _) HT.out).at_ p2cells_length hx
      have hb1 : b < wr.heap.size := Nat.lt_of_lt_of_le hbl HT.out.size
      have hb2 : b' < wr.heap.size := Nat.lt_of_lt_of_le hbl' HT.out.size
      clear hx
      have hk0 : (0 : Int) ≤ (k : Int) := Int.natCast_nonneg _
      have hk8 : (k : Int) < xs.length := by omega
      have hu := Tryd.underlying83
      have hi : (Tryd.prog.info? 83).map (·.size) = some (p2cells x).length := Tryd.sizeP2
      have hs0 : Below wr.heap.size wr wr := Below.refl _ _
      go_wp2_with fail
      refine wp_region_held_drew (S := fun w' => w'.rangeAt b (o + k * 2) (p2cells x) ∧ w'.rangeAt b' (o' + k * 2) (p2cells x) ∧ Below wr.heap.size wr w') (by kernel_rfl) ⟨(World.rangeAt_drew _ _ _ _).2 hrow, (World.rangeAt_drew _ _ _ _).2 hrow', hs0.drew⟩ (fun hHeld => ?_)
      refine wpAnyH_take (i := 0) (v := .slice (some ⟨b, o, none⟩) xs.length c) rfl (by kernel_rfl) (by kernel_rfl) (by kernel_rfl) (fun _ _ _ h => h) (Or.inl ⟨by rfl, fun w _ => by go_simp⟩) (by assumption) ?_
      refine wpAnyH_take (i := 1) (v := .int .i64 k) rfl (by kernel_rfl) (by kernel_rfl) (by kernel_rfl) (fun _ _ _ h => h) (Or.inl ⟨by rfl, fun w _ => by go_simp⟩) (by assumption) ?_
      refine wpAnyH_take (i := 2) (v := .pointer (some ⟨b, o + k * 2, none⟩)) rfl (by kernel_rfl) (by kernel_rfl) (by kernel_rfl) (fun _ _ _ h => h) (Or.inl ⟨by rfl, fun w _ => by go_simp⟩) (by assumption) ?_
      refine' wpAnyH_take (i := 3) (v := _) rfl (by kernel_rfl) (by kernel_rfl) (by kernel_rfl) (fun _ _ _ h => h) (yieldsIf_load_mid (by rfl) 83 (.tmp 19) rfl b (o + k * 2) rfl (p2cells x) _ (fun w h => h.1) hu rfl hi) (by assumption) ?_
      refine wpAnyH_take (i := 4) (v := .slice (some ⟨b', o', none⟩) xs.length d) rfl (by kernel_rfl) (by kernel_rfl) (by kernel_rfl) (fun _ _ _ h => h) (Or.inl ⟨by rfl, fun w _ => by go_simp⟩) (by assumption) ?_
      refine wpAnyH_take (i := 5) (v := .int .i64 k) rfl (by kernel_rfl) (by kernel_rfl) (by kernel_rfl) (fun _ _ _ h => h) (Or.inl ⟨by rfl, fun w _ => by go_simp⟩) (by assumption) ?_
      refine wpAnyH_take (i := 6) (v := .pointer (some ⟨b', o' + k * 2, none⟩)) rfl (by kernel_rfl) (by kernel_rfl) (by kernel_rfl) (fun _ _ _ h => h) (Or.inl ⟨by rfl, fun w _ => by go_simp⟩) (by assumption) ?_
      refine' wpAnyH_take (i := 7) (v := _) rfl (by kernel_rfl) (by kernel_rfl) (by kernel_rfl) (fun _ _ _ h => h) (yieldsIf_load_mid (by rfl) 83 (.tmp 23) rfl b' (o' + k * 2) rfl (p2cells x) _ (fun w h => h.2.1) hu rfl hi) (by assumption) ?_
      refine wpAnyH_ready (rs := [8]) (by kernel_rfl) (by simp) ?_
      refine AllReadyH.cons rfl (fun K hK => ?_) AllReadyH.nil
      refine if_wanted rfl ?_
      go_simp
      refine (eqA2_same x _).mono ?_
      rintro e w2 ⟨rfl, hb⟩
      dsimp only
      refine hK.out _ _ (keptR hb1 hb2 hHeld.2.2 hb hHeld.1 hHeld.2.1) (fun hHeld => ?_)
      clear hK K
      refine wpAnyH_take (i := 9) (v := .bool false) rfl (by kernel_rfl) (by kernel_rfl) (by kernel_rfl) (fun _ _ _ h => h) (Or.inl ⟨by rfl, fun w _ => by go_simp⟩) (by assumption) ?_
      refine wpAnyH_done (by kernel_rfl) ?_ _
      have HR : Hid (Below wr.heap.size wr w2) := hHeld.2.2
      clear hHeld hb hrow hrow'
      go_wp2
      go_roundw
      case rel => exact ⟨k + 1, by omega, by go_num, HT.out.trans (HR.out.mono HT.out.size)⟩
      case measure => simp [intOf]; omega
    · obtain rfl : k = xs.length := by omega
      go_wp2
      go_ret
      exact ⟨rfl, HT.out⟩


/-- A list's cells hold numbers from k0 on. -/
def MkdA2 (w : World) (A : Option Addr) (n : Nat) (k0 : Int) : Prop := ∀ j : Nat, j < n → ∃ g, A = some ⟨g, 0, none⟩ ∧ g < w.heap.size ∧ w.cell? ⟨g, j * 2, none⟩ = some (.int .i64 (IntKind.i64.wrap (k0 + 2 * (j : Int)))) ∧ w.cell? ⟨g, j * 2 + 1, none⟩ = some (.int .i64 (IntKind.i64.wrap (k0 + 2 * (j : Int) + 1)))
theorem MkdA2.below {w w' : World} {A : Option Addr} {n : Nat} {k0 : Int} (h : MkdA2 w A n k0) (hb : Below w.heap.size w w') : MkdA2 w' A n k0 := fun j hj => by
  obtain ⟨g, rfl, hg, h0, h1⟩ := h j hj
  exact ⟨g, rfl, Nat.lt_of_lt_of_le hg hb.size, (hb.cell (p := ⟨g, j * 2, none⟩) hg).trans h0, (hb.cell (p := ⟨g, j * 2 + 1, none⟩) hg).trans h1⟩

set_option maxRecDepth 100000 in
set_option maxHeartbeats 2000000 in
theorem mkA2_any (n : Nat) (A : Option Addr) (c : Nat) (k0 : Int) (w : World) (hk0 : 0 ≤ k0) (hk1 : k0 + 2 * (n : Int) ≤ 4611686018427387904) (h : n = 0 ∨ ∃ g cur, A = some ⟨g, 0, none⟩ ∧ Blk w g 83 cur ∧ n * 2 ≤ cur.size) :
    Calls Tryd.prog 24 #[.slice A n c, .int .i64 k0] w fun e w' => e = .returned (.int .i64 (k0 + 2 * n)) ∧ MkdA2 w' A n k0 ∧ w.grownBy w' (A.map (·.block)) ∧ (n = 0 → w = w') := by
  by_cases hn0 : n = 0
  · subst hn0
    go_enter Tryd.func24, Tryd.ntmps24
    go_wp2
    refine wp_loop_rounds 1 ?_
    rw [rounds_succ]
    go_wp2
    go_ret
    exact ⟨by simp, fun j hj => absurd hj (by omega), ⟨rfl, rfl, rfl, Nat.le_refl _, fun _ _ _ => rfl⟩, fun _ => rfl⟩
  obtain ⟨g, cur, rfl, hK, hcs⟩ := h.resolve_left hn0
  have HN0 := Lib.hid hn0
  clear hn0 h
  have HK := Lib.hid hK
  have HC := Lib.hid hcs
  clear hK hcs
  go_enter Tryd.func24, Tryd.ntmps24
  go_wp2_with fail
  go_loopw [1, 5] (fun s i wr => ∃ (k : Nat) (cu : Array Value), k ≤ n ∧ i = .int .i64 k ∧ s = .int .i64 (k0 + 2 * k) ∧ Blk wr g 83 cu ∧ cu.size = cur.size ∧ (∀ j : Nat, j < k → cu[j * 2]? = some (.int .i64 (IntKind.i64.wrap (k0 + 2 * (j : Int)))) ∧ cu[j * 2 + 1]? = some (.int .i64 (IntKind.i64.wrap (k0 + 2 * (j : Int) + 1)))) ∧ w.grownBy wr (some g)) (fun _ i _ => n - (intOf i).toNat)
  case atStart => exact ⟨0, cur, by omega, rfl, by simp, HK.out, rfl, fun j h => absurd h (by omega), ⟨rfl, rfl, rfl, Nat.le_refl _, fun _ _ _ => rfl⟩⟩
  case round =>
    clear HK
    obtain ⟨k, cu, hk, rfl, rfl, hB, hsz', hm, hT⟩ := hrel
    have HB := Lib.hid hB
    have HM := Lib.hid hm
    have HT := Lib.hid hT
    have HS := Lib.hid hsz'
    clear hB hT hm hsz'
    obtain ⟨m, hmm⟩ : ∃ m : Int, k0 + 2 * (k : Int) = m := ⟨_, rfl⟩
    have HMM := Lib.hid hmm
    rw [hmm]
    by_cases hlt : k < n
    · have hcs := HC.out
      obtain ⟨u0, hu0⟩ : ∃ u, cu[k * 2]? = some u := ⟨_, Array.getElem?_eq_getElem (by have := HS.out; omega)⟩
      have e0 : wr.cell? ⟨g, k * 2, none⟩ = some u0 := (HB.out.cell _).trans hu0
      have f0 := HB.out.frozen (k * 2)
      obtain ⟨u1, hu1⟩ : ∃ u, cu[k * 2 + 1]? = some u := ⟨_, Array.getElem?_eq_getElem (by have := HS.out; omega)⟩
      have e1 : wr.cell? ⟨g, k * 2 + 1, none⟩ = some u1 := (HB.out.cell _).trans hu1
      have f1 := HB.out.frozen (k * 2 + 1)
      have hkk0 : (0 : Int) ≤ (k : Int) := Int.natCast_nonneg _
      have hkk8 : (k : Int) < n := by omega
      have hw0 : IntKind.i64.wrap (m) = m := IntWalk.i64_in _ ⟨by omega, by omega⟩
      have hw1 : IntKind.i64.wrap (m + 1) = m + 1 := IntWalk.i64_in _ ⟨by omega, by omega⟩
      have hs0 : IntKind.i64.wrap (m + 1) = m + 1 := IntWalk.i64_in _ ⟨by omega, by omega⟩
      have hs1 : wrap64 (m + 1) = m + 1 := IntWalk.wrap64_in _ ⟨by omega, by omega⟩
      have hs2 : IntKind.i64.wrap (m + 1 + 1) = m + 1 + 1 := IntWalk.i64_in _ ⟨by omega, by omega⟩
      have hs3 : wrap64 (m + 1 + 1) = m + 1 + 1 := IntWalk.wrap64_in _ ⟨by omega, by omega⟩
      clear hu0 hu1 hmm hcs
      go_wp2_with fail
      refine wp_loop_rounds 3 ?_
      rw [rounds_succ]
      go_wp2
      rw [rounds_succ]
      go_wp2
      rw [rounds_succ]
      go_wp2
      go_roundw
      case rel =>
        have hmm := HMM.out
        have hcs := HC.out
        refine ⟨k + 1, ((cu.setIfInBounds (k * 2) (.int .i64 (m))).setIfInBounds (k * 2 + 1) (.int .i64 (m + 1))), by omega, by go_num, by rw [show k0 + 2 * ((k + 1 : Nat) : Int) = m + 1 + 1 from by omega], ((HB.out.set_ (k * 2) _).set_ (k * 2 + 1) _), by simp [HS.out], fun j hj => ?_, (gk_set (gk_set HT.out _) _)⟩
        have hsz2 := HS.out
        by_cases e : j = k
        · subst e
          have q0 : k0 + 2 * (j : Int) = m := by omega
          have q1 : k0 + 2 * (j : Int) + 1 = m + 1 := by omega
          refine ⟨?_, ?_⟩
          · rw [Array.getElem?_setIfInBounds, if_neg (by omega), Array.getElem?_setIfInBounds, if_pos rfl, if_pos (by have := HS.out; (try simp only [Array.size_setIfInBounds]); omega), q0, hw0]
          · rw [Array.getElem?_setIfInBounds, if_pos rfl, if_pos (by have := HS.out; (try simp only [Array.size_setIfInBounds]); omega), q1, hw1]
        · have hm1 := HM.out j (by omega)
          refine ⟨?_, ?_⟩
          · rw [Array.getElem?_setIfInBounds, if_neg (by omega), Array.getElem?_setIfInBounds, if_neg (by omega)]; exact hm1.1
          · rw [Array.getElem?_setIfInBounds, if_neg (by omega), Array.getElem?_setIfInBounds, if_neg (by omega)]; exact hm1.2
      case measure => simp [intOf]; omega
    · obtain rfl : k = n := by omega
      go_wp2
      go_ret
      exact ⟨by rw [HMM.out]; first | done | rfl, fun j hj => ⟨g, rfl, HB.out.lt, (HB.out.cell _).trans (HM.out j hj).1, (HB.out.cell _).trans (HM.out j hj).2⟩, HT.out, fun e => absurd e HN0.out⟩

set_option maxRecDepth 100000 in
set_option maxHeartbeats 2000000 in
theorem hdA2_any (n : Nat) (A : Option Addr) (c : Nat) (k0 : Int) (w : World) (hk0 : 0 ≤ k0) (hk1 : k0 + 2 * (n : Int) ≤ 4611686018427387904) (h : MkdA2 w A n k0) :
    Calls Tryd.prog 25 #[.slice A n c, .int .i64 k0] w fun e w' => e = .returned (.int .i64 (k0 + 2 * n)) ∧ w = w' := by
  have H := Lib.hid h
  clear h
  go_enter Tryd.func25, Tryd.ntmps25
  go_wp2_with fail
  go_loop [1, 5] (fun s i => ∃ (k : Nat), k ≤ n ∧ i = .int .i64 k ∧ s = .int .i64 (k0 + 2 * k)) (fun _ i => n - (intOf i).toNat)
  case atStart => exact ⟨0, by omega, rfl, by simp⟩
  case round =>
    obtain ⟨k, hk, rfl, rfl⟩ := hrel
    obtain ⟨m, hmm⟩ : ∃ m : Int, k0 + 2 * (k : Int) = m := ⟨_, rfl⟩
    have HMM := Lib.hid hmm
    by_cases hlt : k < n
    · obtain ⟨g, rfl, hg, c0, c1⟩ := H.out k hlt
      rw [hmm] at c0 c1 ⊢
      have hkk0 : (0 : Int) ≤ (k : Int) := Int.natCast_nonneg _
      have hkk8 : (k : Int) < n := by omega
      have hw0 : IntKind.i64.wrap (m) = m := IntWalk.i64_in _ ⟨by omega, by omega⟩
      rw [hw0] at c0
      have hw1 : IntKind.i64.wrap (m + 1) = m + 1 := IntWalk.i64_in _ ⟨by omega, by omega⟩
      rw [hw1] at c1
      have hs0 : IntKind.i64.wrap (m + 1) = m + 1 := IntWalk.i64_in _ ⟨by omega, by omega⟩
      have hs1 : wrap64 (m + 1) = m + 1 := IntWalk.wrap64_in _ ⟨by omega, by omega⟩
      have hs2 : IntKind.i64.wrap (m + 1 + 1) = m + 1 + 1 := IntWalk.i64_in _ ⟨by omega, by omega⟩
      have hs3 : wrap64 (m + 1 + 1) = m + 1 + 1 := IntWalk.wrap64_in _ ⟨by omega, by omega⟩
      clear hmm
      go_wp2_with fail
      refine wp_loop_rounds 3 ?_
      rw [rounds_succ]
      go_wp2
      rw [rounds_succ]
      go_wp2
      rw [rounds_succ]
      go_wp2
      go_round
      case rel => exact ⟨k + 1, by omega, by go_num, by have := HMM.out; rw [show k0 + 2 * ((k + 1 : Nat) : Int) = m + 1 + 1 from by omega]⟩
      case measure => simp [intOf]; omega
    · obtain rfl : k = n := by omega
      clear hmm
      go_wp2
      go_ret
      exact ⟨rfl, rfl⟩
end Go.Proofs.YtlfamfdgphhbcabDoor
