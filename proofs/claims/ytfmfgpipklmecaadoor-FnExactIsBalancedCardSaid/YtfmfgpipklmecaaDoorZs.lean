/-
  Pairs: the model's contracts, of l07Square, l07Pairs, PairsFor. Condition: valid marks for the inner ones.
-/
import Derived.Test.YtfmfgpipklmecaaDoorTr1
import Derived.Test.YtfmfgpipklmecaaDoorZn
import Derived.Test.YtfmfgpipklmecaaDoorZ0
namespace Go.Proofs.YtfmfgpipklmecaaDoor
open Go.ChangeShapes Go.WideShapes Go.ChangeAt Go.RowKit Go.Deep

set_option maxRecDepth 100000 in
set_option maxHeartbeats 4000000 in
theorem l07Square_any (N : Nat) (hN8 : N ≤ 8) (w : World) :
    Calls Tryd.prog 57 #[.int .i64 N] w fun e w' => ∃ A' c' hs, e = .returned (.slice A' N c') ∧ OwnN w' w.heap.size 23 2 1 icells A' c' hs (zL N N) ∧ Below w.heap.size w w' := by
  obtain ⟨i0, hi, hz0, hz1, hz2⟩ := info_parts Tryd.info64
  have HI := Lib.hid hi
  have HZ0 := Lib.hid hz0
  have HZ1 := Lib.hid hz1
  have HZ2 := Lib.hid hz2
  obtain ⟨j0, hj, hy0, hy1, hy2⟩ := info_parts Tryd.infoLN
  have HJ := Lib.hid hj
  have HY0 := Lib.hid hy0
  have HY1 := Lib.hid hy1
  have HY2 := Lib.hid hy2
  clear hi hz0 hz1 hz2 hj hy0 hy1 hy2
  obtain ⟨W1, hW1⟩ : ∃ W, w.alloc (.cells #[] 23) = W := ⟨_, rfl⟩
  have HB1 : Hid (Below w.heap.size w W1) := by show Below _ _ _; rw [← hW1]; exact (Below.refl _ w).alloc (Nat.le_refl _) _
  have HO1 : Hid (OwnN W1 w.heap.size 23 2 1 icells (some ⟨w.heap.size, 0, none⟩) 0 [] ([] : List (List Int))) := by show OwnN W1 _ _ _ _ _ _ _ _ _; rw [← hW1]; exact empty_ownH w _ (Nat.le_refl _)
  go_enter Tryd.func57, Tryd.ntmps57
  go_wp2_with fail
  clear hW1
  go_loopw [3, 4] (fun v i wr => ∃ (k : Nat) (A1 : Option Addr) (c1 : Nat) (hs : List Hd), k ≤ N ∧ i = .int .i64 k ∧ v = .slice A1 hs.length c1 ∧ OwnN wr w.heap.size 23 2 1 icells A1 c1 hs (zL N k) ∧ Below w.heap.size w wr)
    (fun _ i _ => N - (intOf i).toNat)
  case atStart => exact ⟨0, _, _, [], by omega, rfl, rfl, HO1.out, HB1.out⟩
  case round =>
    clear HO1 HB1
    obtain ⟨k, A1, c1, hs, hk, rfl, rfl, hO, hB⟩ := hrel
    obtain ⟨wa, rfl⟩ : ∃ u, u = wr := ⟨_, rfl⟩
    have HO := Lib.hid hO
    have HB := Lib.hid hB
    have HHl : Hid (hs.length = k) := hO.2.1.trans (zL_len N k)
    clear hO hB
    have hk0 : (0 : Int) ≤ (k : Int) := Int.natCast_nonneg _
    by_cases hlt : k < N
    · have hk8 : (k : Int) < N := by omega
      have hHl : hs.length ≤ 8 := by have := HHl.out; omega
      have HSt : Hid (zL N (k + 1) = zL N k ++ [List.replicate N 0]) := zL_succ N k
      go_wp2_with (first
        | (refine wpList_make_full _ rfl (.tmp 12) (.tmp 12) 23 rfl wa.heap.size 2 i0 _ 1 Tryd.underlying23 HI.out HZ0.out HZ1.out .i64 .i64 _ _ N rfl rfl rfl rfl (by rw [HZ2.out]; omega) (by unfold maxLen; omega) (Nat.le_refl _) ?_
           intro w1 hown hg
           have hR0 : Rs w1 wa.heap.size 2 icells (List.replicate N 0) := by
             have := blk_of_make hown
             rw [made_rows icells_length 0 (Value.int IntKind.i64 0).cells rfl (by omega)] at this
             exact this
           have hB0 : Below wa.heap.size wa w1 := (Below.refl _ wa).grown hg (Nat.le_refl _) (fun _ h => by cases h)
           have hlN : (List.replicate N (0 : Int)).length = N := by simp
           obtain ⟨ys, hys⟩ : ∃ ys, List.replicate N (0 : Int) = ys := ⟨_, rfl⟩
           rw [hys] at hR0 HSt hlN
           have hO2 : w1.ownsRow wa.heap.size 2 1 (.slice (some ⟨wa.heap.size, 0, none⟩) ys.length ys.length) ys.length (ys.flatMap icells) := own_of_rs icells_length hR0 (by rw [hlN]; unfold maxLen; omega)
           have HO2 := Lib.hid hO2
           have HB0 := Lib.hid hB0
           have hyx : Hid (N = ys.length) := hlN.symm
           have HBn : Hid (Below w1.heap.size w1 (w1.alloc (.cells (hcells (some ⟨wa.heap.size, 0, none⟩, ys.length, ys.length)).toArray 23))) := (Below.refl _ _).alloc (Nat.le_refl _) _
           have HN2 := Lib.hid (HO.out.keep HB0.out)
           have HSr := Lib.hid (src_hd (P := Tryd.prog) Tryd.underlying22 w1 (some ⟨wa.heap.size, 0, none⟩, ys.length, ys.length))
           have HBs : Hid (w.heap.size ≤ w1.heap.size + 1) := by have := HB.out.size; have := HB0.out.size; show _ ≤ _; omega
           clear hR0 hB0 hown hg hys hlN hO2
           have hA : (N : Nat) = ys.length := hyx.out
           rw [show (Value.slice (some ⟨wa.heap.size, 0, none⟩) N N) = Value.slice (some ⟨wa.heap.size, 0, none⟩) ys.length ys.length from by rw [← hA]]
           clear hA)
        | (at_builtin; refine wpList_append_any _ rfl (.tmp 11) (.tmp 14) 22 22 rfl w.heap.size 23 j0 (.slice none 0 0) 1 24 Tryd.underlying22 HJ.out HY0.out HY1.out HY2.out rfl (by decide) _ hs.length (hs.flatMap hcells) rfl ?o1 _ 1 (hcells (some ⟨wa.heap.size, 0, none⟩, ys.length, ys.length)) rfl ?o2 ?o3 ?o4 ?o5 ?_))
      case o1 => exact (HN2.out.keep HBn.out).1
      case o2 => exact HSr.out
      case o3 => unfold maxLen; omega
      case o4 => omega
      case o5 => have := HBs.out; simp; omega
      intro v' w8 hown' hgrow hblk
      obtain ⟨A8, c8, rfl⟩ : ∃ A8 c8, v' = .slice A8 (hs.length + 1) c8 := by
        rcases hown'.2 with ⟨h1, h2⟩ | ⟨g, cap, cur, h1, -⟩
        · exact ⟨_, _, by rw [h1, h2]⟩
        · exact ⟨_, _, h1⟩
      rw [ownBlock_slice] at hgrow hblk
      rw [ownBlock_slice] at hblk
      have hN8 := HO.out.snoc HB.out.size (HB0.out.trans (HBn.out.mono HB0.out.size)) (own_keep' HO2.out HBn.out) hown' hgrow (hblk.imp id (fun h => h.trans (by simp)))
      rw [← HSt.out] at hN8
      have HN8 := Lib.hid hN8
      have HB8 : Hid (Below w.heap.size w w8) := by
        show Below _ _ _
        have h1 := HB.out.trans ((HB0.out.trans (HBn.out.mono HB0.out.size)).mono HB.out.size)
        exact h1.grown hgrow h1.size (fun r e => (own_block HO.out.1 (by rw [ownBlock_slice]; exact e)).1)
      clear hown' hgrow hblk hN8 HN2 HBn
      go_wp2
      go_roundw
      case rel => exact ⟨k + 1, A8, c8, _, by omega, by go_num, by first | rfl | simp, HN8.out, HB8.out⟩
      case measure => simp [intOf]; omega
    · obtain rfl : k = N := by omega
      have HLn := Lib.hid HHl.out
      go_wp2
      go_ret
      exact ⟨A1, c1, hs, by (rw [HLn.out]; first | done | rfl), HO.out, HB.out⟩

set_option maxRecDepth 100000 in
set_option maxHeartbeats 8000000 in
theorem l07Pairs_any (n : Int) (m : List (List Int)) (hv : mkOk n m = true) (A : Option Addr) (c : Nat) (w : World) (hr : RdN w w.heap.size icells A m) :
    Calls Tryd.prog 32 #[.int .i64 n, .slice A m.length c] w fun e w' => ∃ A' c' hs, e = .returned (.slice A' n.toNat c') ∧ OwnN w' w.heap.size 23 2 1 icells A' c' hs (mat n.toNat (prF m m.length)) ∧ Below w.heap.size w w' := by
  obtain ⟨⟨hn1, hn8⟩, hm12, hrows⟩ := mkOk_iff.1 hv
  have HRow : Hid (∀ xs ∈ m, (xs.length : Int) = n) := fun xs h => (mkRow_iff.1 (hrows xs h)).1
  obtain ⟨N, hN⟩ : ∃ N : Nat, n.toNat = N := ⟨_, rfl⟩
  have hnN : n = (N : Int) := by omega
  subst hnN
  have hNe : ((N : Int)).toNat = N := by omega
  rw [hNe]
  have HR := Lib.hid hr
  have hN8 : N ≤ 8 := by omega
  have HC := Lib.hid (l07Square_any N hN8 w)
  clear hr hrows hN hNe hv
  go_enter Tryd.func32, Tryd.ntmps32
  go_wp2_with fail
  refine HC.out.mono ?_
  rintro e w1 ⟨Aq, cq, hsq, rfl, hO, hb⟩
  have HO1 : Hid (OwnN w1 w.heap.size 23 2 1 icells Aq cq hsq (mat N (prF m 0))) := by show OwnN _ _ _ _ _ _ _ _ _ _; rw [prF_zero]; exact hO
  have HB1 := Lib.hid hb
  clear hO hb HC
  go_wp2_with fail
  go_loopw [6] (fun i wr => ∃ (t : Nat), t ≤ m.length ∧ i = .int .i64 t ∧ OwnN wr w.heap.size 23 2 1 icells Aq cq hsq (mat N (prF m t)) ∧ Below w.heap.size w wr)
    (fun i _ => m.length - (intOf i).toNat)
  case atStart => exact ⟨0, by omega, rfl, HO1.out, HB1.out⟩
  case round =>
    clear HO1 HB1
    obtain ⟨t, ht, rfl, hO, hB⟩ := hrel
    obtain ⟨wa, rfl⟩ : ∃ u, u = wr := ⟨_, rfl⟩
    have HO := Lib.hid hO
    have HB := Lib.hid hB
    clear hO hB
    have ht0 : (0 : Int) ≤ (t : Int) := Int.natCast_nonneg _
    by_cases hlt : t < m.length
    · obtain ⟨xs, hxs⟩ : ∃ x, m[t]? = some x := ⟨_, List.getElem?_eq_getElem hlt⟩
      have ht8 : (t : Int) < m.length := by omega
      have hxn := HRow.out xs (List.mem_of_getElem? hxs)
      have HXs := Lib.hid hxs
      have HXn : Hid (xs.length = N) := by show _ = _; omega
      have HO2 : Hid (OwnN wa w.heap.size 23 2 1 icells Aq cq hsq (mat N (upTo (prF m t) (prF m (t + 1)) 0 0))) := by show OwnN _ _ _ _ _ _ _ _ _ _; rw [upTo_start]; exact HO.out
      clear hxs hxn HO
      go_wp2_with fail
      go_loopw [7] (fun i wr => ∃ (i0 : Nat), i0 ≤ N ∧ i = .int .i64 i0 ∧ OwnN wr w.heap.size 23 2 1 icells Aq cq hsq (mat N (upTo (prF m t) (prF m (t + 1)) i0 0)) ∧ Below w.heap.size w wr)
        (fun i _ => N - (intOf i).toNat)
      case atStart => exact ⟨0, by omega, rfl, HO2.out, HB.out⟩
      case round =>
        clear HO2 HB
        obtain ⟨i, hi, rfl, hO, hB⟩ := hrel
        obtain ⟨wb, rfl⟩ : ∃ u, u = wr := ⟨_, rfl⟩
        have HO := Lib.hid hO
        have HB := Lib.hid hB
        clear hO hB
        have hi0 : (0 : Int) ≤ (i : Int) := Int.natCast_nonneg _
        by_cases hlt2 : i < N
        · have hi8 : (i : Int) < N := by omega
          obtain ⟨x, hx⟩ : ∃ x, xs[i]? = some x := ⟨_, List.getElem?_eq_getElem (by rw [HXn.out]; exact hlt2)⟩
          have HX := Lib.hid hx
          clear hx
          go_wp2_with fail
          go_loopw [8] (fun i9 wr => ∃ (k : Nat), k ≤ N ∧ i9 = .int .i64 k ∧ OwnN wr w.heap.size 23 2 1 icells Aq cq hsq (mat N (upTo (prF m t) (prF m (t + 1)) i k)) ∧ Below w.heap.size w wr)
            (fun i9 _ => N - (intOf i9).toNat)
          case atStart => exact ⟨0, by omega, rfl, HO.out, HB.out⟩
          case round =>
            clear HO HB
            obtain ⟨k, hk, rfl, hO, hB⟩ := hrel
            obtain ⟨wc, rfl⟩ : ∃ u, u = wr := ⟨_, rfl⟩
            have HO := Lib.hid hO
            have HB := Lib.hid hB
            clear hO hB
            have hk0 : (0 : Int) ≤ (k : Int) := Int.natCast_nonneg _
            by_cases hlt3 : k < N
            · have hk8 : (k : Int) < N := by omega
              obtain ⟨y, hy⟩ : ∃ y, xs[k]? = some y := ⟨_, List.getElem?_eq_getElem (by rw [HXn.out]; exact hlt3)⟩
              have hix : (i : Int) < xs.length := by rw [HXn.out]; exact hi8
              have hkx : (k : Int) < xs.length := by rw [HXn.out]; exact hk8
              obtain ⟨b, o, a, c', rfl, hb, hc, hrd⟩ := (HR.out.keep HB.out).at_ HXs.out
              obtain ⟨b3, o3, rfl, hbl, hrow⟩ := hrd.at_ icells_length hy
              obtain ⟨b4, o4, eA, hbl4, hrow4⟩ := hrd.at_ icells_length HX.out
              obtain ⟨rfl, rfl⟩ : b3 = b4 ∧ o3 = o4 := by simpa using eA
              have e1 := rowI hrow
              have e2 := rowI hrow4
              have hpS := prTo_succ HXs.out i k
              rw [prB_at HX.out hy] at hpS
              have hpl := prTo_le m i k t
              cases hd : decide (y < x)
              · have hyx : ¬ y < x := of_decide_eq_false hd
                have HOx : Hid (OwnN wc w.heap.size 23 2 1 icells Aq cq hsq (mat N (upTo (prF m t) (prF m (t + 1)) i (k + 1)))) := by
                  show OwnN _ _ _ _ _ _ _ _ _ _
                  rw [upTo_skip (by show prTo m i k (t + 1) = prTo m i k t; rw [hpS, hd]; rfl)]
                  exact HO.out
                clear hpS hpl hd hy hrd hrow hrow4 eA HO
                go_wp2_with fail
                go_region
                go_wp2
                go_roundw
                case rel => exact ⟨k + 1, by omega, by go_num, by first | exact HOx.out | exact HOx.out.keep ((Below.refl _ _).drew), by first | exact HB.out | exact HB.out.drew⟩
                case measure => simp [intOf]; omega
              · have hyx : y < x := of_decide_eq_true hd
                obtain ⟨gA, g, c0, rfl, f1, -, hbg, f2, f3, f4⟩ := HO.out.rowAt (mat_at _ hlt2) (by rw [mRow_len]; omega)
                have f5 := f2 k _ (mRow_at _ i hlt3)
                have f6 := f3 k
                have f7 := f4 k ((prF m (t + 1) i k : Nat) : Int)
                rw [upTo_set hlt2 hlt3] at f7
                rw [upTo_at] at f5
                rw [mRow_len] at f1
                have f8 : prF m (t + 1) i k = prF m t i k + 1 := by show prTo m i k (t + 1) = prTo m i k t + 1; rw [hpS, hd]; rfl
                have hpl' : prF m t i k ≤ t := hpl
                rw [f8] at f7
                obtain ⟨q, hq⟩ : ∃ q, prF m t i k = q := ⟨_, rfl⟩
                rw [hq] at f5 f7 hpl'
                have u1 : IntKind.i64.wrap ((q : Int) + 1) = (q : Int) + 1 := IntWalk.i64_in _ ⟨by omega, by omega⟩
                have u2 : wrap64 ((q : Int) + 1) = (q : Int) + 1 := IntWalk.wrap64_in _ ⟨by omega, by omega⟩
                have HOx : Hid (OwnN (wc.setCell ⟨g, k, none⟩ (.int .i64 ((q : Int) + 1))) w.heap.size 23 2 1 icells (some ⟨gA, 0, none⟩) cq hsq (mat N (upTo (prF m t) (prF m (t + 1)) i (k + 1)))) := f7
                have HBx : Hid (Below w.heap.size w (wc.setCell ⟨g, k, none⟩ (.int .i64 ((q : Int) + 1)))) := HB.out.setCell (p := ⟨g, k, none⟩) hbg _
                clear hpS hpl hd hy hrd hrow hrow4 eA f2 f3 f4 f7 f8 hpl' hq
                go_wp2_with fail
                go_region
                go_wp2
                go_roundw
                case rel => exact ⟨k + 1, by omega, by go_num, by first | exact HOx.out | exact HOx.out.keep ((Below.refl _ _).drew), by first | exact HBx.out | exact HBx.out.drew⟩
                case measure => simp [intOf]; omega
            · obtain rfl : k = N := by omega
              have HOx : Hid (OwnN wc w.heap.size 23 2 1 icells Aq cq hsq (mat k (upTo (prF m t) (prF m (t + 1)) (i + 1) 0))) := by show OwnN _ _ _ _ _ _ _ _ _ _; rw [← upTo_next]; exact HO.out
              go_wp2
              go_roundw
              case rel => exact ⟨i + 1, by omega, by go_num, HOx.out, HB.out⟩
              case measure => simp [intOf]; omega
        · obtain rfl : i = N := by omega
          have HOx : Hid (OwnN wb w.heap.size 23 2 1 icells Aq cq hsq (mat i (prF m (t + 1)))) := by show OwnN _ _ _ _ _ _ _ _ _ _; rw [← upTo_all (prF m t)]; exact HO.out
          go_wp2
          go_roundw
          case rel => exact ⟨t + 1, by omega, by go_num, HOx.out, HB.out⟩
          case measure => simp [intOf]; omega
    · obtain rfl : t = m.length := by omega
      go_wp2
      go_ret
      exact ⟨Aq, cq, hsq, rfl, HO.out, HB.out⟩
end Go.Proofs.YtfmfgpipklmecaaDoor
