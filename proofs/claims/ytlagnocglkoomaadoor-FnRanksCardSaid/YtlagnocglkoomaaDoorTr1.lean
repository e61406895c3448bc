/-
  Ranks: the model's contracts, of l07Ranks and l07Sums, RanksOf and RankSums. Condition: valid marks for the inner ones.
-/
import Derived.Test.YtlagnocglkoomaaDoorTv
import Derived.Test.YtlagnocglkoomaaDoorNq
namespace Go.Proofs.YtlagnocglkoomaaDoor
open Go.ChangeShapes Go.WideShapes Go.ChangeAt Go.RowKit Go.Deep

theorem rkA_len (n : Int) (m : List (List Int)) : (rkA n m).length ≤ 1048576 := by
  unfold rkA
  split
  · have h : mkOk n m = true := by assumption
    have := (mkOk_iff.1 h).2.1
    rw [rkLs_len (Nat.le_refl _)]; omega
  · simp
theorem rkLs_mem {n : Int} {m : List (List Int)} (h : mkOk n m = true) {k : Nat} {ys : List Int} (hy : ys ∈ rkLs m k) : ys.length ≤ 8 := by
  obtain ⟨h1, h2, h3⟩ := mkOk_iff.1 h
  obtain ⟨xs, hxs, rfl⟩ := List.mem_map.1 hy
  have := (mkRow_iff.1 (h3 xs (List.mem_of_mem_take hxs))).1
  rw [rkL_len]; omega
theorem rkA_each (n : Int) (m : List (List Int)) : ∀ ys ∈ rkA n m, ys.length ≤ 1048576 := by
  unfold rkA
  split
  · exact fun ys hy => Nat.le_trans (rkLs_mem (by assumption) hy) (by omega)
  · simp
theorem sum_bnd {T : Type} : ∀ (xss : List (List T)) (k m : Nat), xss.length ≤ k → (∀ xs ∈ xss, xs.length ≤ m) → sumL xss ≤ k * m
  | [], _, _, _, _ => by simp [sumL]
  | xs :: xss, 0, _, h, _ => by simp at h
  | xs :: xss, k + 1, m, hk, h => by
    have h1 := sum_bnd xss k m (by simpa using hk) (fun ys hy => h ys (List.mem_cons_of_mem _ hy))
    have h2 := h xs (List.mem_cons_self ..)
    unfold sumL at h1 ⊢
    simp only [List.map_cons, List.sum_cons, Nat.succ_mul]
    omega
theorem icells_one (h : Int) : (icells h).toArray.all (·.oneCell') = true := by simp [icells, Value.oneCell']
theorem empty_ownI (w : World) (b : Nat) (hb : b ≤ w.heap.size) : (w.alloc (.cells #[] 2)).ownsRow b 2 1 (.slice (some ⟨w.heap.size, 0, none⟩) 0 0) 0 (([] : List Int).flatMap icells) :=
  ⟨rfl, .inr ⟨w.heap.size, 0, #[], rfl, hb, heap_alloc_new w _, Nat.le_refl _, by unfold maxLen; omega, by simp, by simp⟩⟩
theorem empty_ownH (w : World) (b : Nat) (hb : b ≤ w.heap.size) : OwnN (w.alloc (.cells #[] 30)) b 30 2 1 icells (some ⟨w.heap.size, 0, none⟩) 0 [] ([] : List (List Int)) :=
  ⟨⟨rfl, .inr ⟨w.heap.size, 0, #[], rfl, hb, heap_alloc_new w _, Nat.le_refl _, by unfold maxLen; omega, by simp, by simp⟩⟩, rfl, fun i h xs hi => by simp at hi, fun i j h h' _ hi => by simp at hi, fun i h hi => by simp at hi⟩

set_option maxRecDepth 100000 in
set_option maxHeartbeats 8000000 in
theorem l07Ranks_any (n : Int) (m : List (List Int)) (hv : mkOk n m = true) (A : Option Addr) (c : Nat) (w : World) (hr : RdN w w.heap.size icells A m) :
    Calls Tryd.prog 23 #[.int .i64 n, .slice A m.length c] w fun e w' => ∃ A' c' hs, e = .returned (.slice A' (rkLs m m.length).length c') ∧ OwnN w' w.heap.size 30 2 1 icells A' c' hs (rkLs m m.length) ∧ Below w.heap.size w w' := by
  obtain ⟨i0, hi, hz0, hz1, hz2⟩ := info_parts Tryd.info64
  have HI := Lib.hid hi
  have HZ0 := Lib.hid hz0
  have HZ1 := Lib.hid hz1
  have HZ2 := Lib.hid hz2
  obtain ⟨j0, hj, hy0, hy1, hy2⟩ := info_parts Tryd.infoLN
  have HJ := Lib.hid hj
  have HY0 := Lib.hid hy0
  have HY1 := Lib.hid hy1
  have HY2 := Lib.hid hy2
  clear hi hz0 hz1 hz2 hj hy0 hy1 hy2
  obtain ⟨⟨hn1, hn8⟩, hm12, hrows⟩ := mkOk_iff.1 hv
  have HRow : Hid (∀ xs ∈ m, (xs.length : Int) = n) := fun xs h => (mkRow_iff.1 (hrows xs h)).1
  have HR := Lib.hid hr
  obtain ⟨W1, hW1⟩ : ∃ W, w.alloc (.cells #[] 30) = W := ⟨_, rfl⟩
  have HB1 : Hid (Below w.heap.size w W1) := by show Below _ _ _; rw [← hW1]; exact (Below.refl _ w).alloc (Nat.le_refl _) _
  have HO1 : Hid (OwnN W1 w.heap.size 30 2 1 icells (some ⟨w.heap.size, 0, none⟩) 0 [] ([] : List (List Int))) := by show OwnN W1 _ _ _ _ _ _ _ _ _; rw [← hW1]; exact empty_ownH w _ (Nat.le_refl _)
  clear hr hv hrows
  go_enter Tryd.func23, Tryd.ntmps23
  go_wp2_with fail
  clear hW1
  go_loopw [5, 6] (fun v i wr => ∃ (k : Nat) (A1 : Option Addr) (c1 : Nat) (hs : List Hd), k ≤ m.length ∧ i = .int .i64 k ∧ v = .slice A1 hs.length c1 ∧ OwnN wr w.heap.size 30 2 1 icells A1 c1 hs (rkLs m k) ∧ Below w.heap.size w wr)
    (fun _ i _ => m.length - (intOf i).toNat)
  case atStart => exact ⟨0, _, _, [], by omega, rfl, rfl, HO1.out, HB1.out⟩
  case round =>
    clear HO1 HB1
    obtain ⟨k, A1, c1, hs, hk, rfl, rfl, hO, hB⟩ := hrel
    obtain ⟨wa, rfl⟩ : ∃ u, u = wr := ⟨_, rfl⟩
    have HO := Lib.hid hO
    have HB := Lib.hid hB
    clear hO hB
    have hk0 : (0 : Int) ≤ (k : Int) := Int.natCast_nonneg _
    by_cases hlt : k < m.length
    · obtain ⟨xs, hxs⟩ : ∃ x, m[k]? = some x := ⟨_, List.getElem?_eq_getElem hlt⟩
      have hk8 : (k : Int) < m.length := by omega
      have hxn := HRow.out xs (List.mem_of_getElem? hxs)
      have HXs := Lib.hid hxs
      have HXn := Lib.hid hxn
      have hxl8 : xs.length ≤ 8 := by omega
      have hHl : hs.length ≤ 12 := by rw [HO.out.2.1, rkLs_len hk]; omega
      have HSt : Hid (rkLs m (k + 1) = rkLs m k ++ [rkL xs]) := rkLs_succ hxs
      obtain ⟨W2, hW2⟩ : ∃ W, wa.alloc (.cells #[] 2) = W := ⟨_, rfl⟩
      have HB2 : Hid (Below wa.heap.size wa W2) := by show Below _ _ _; rw [← hW2]; exact (Below.refl _ _).alloc (Nat.le_refl _) _
      have HO2 : Hid (W2.ownsRow wa.heap.size 2 1 (.slice (some ⟨wa.heap.size, 0, none⟩) 0 0) 0 (([] : List Int).flatMap icells)) := by show W2.ownsRow _ _ _ _ _ _; rw [← hW2]; exact empty_ownI wa _ (Nat.le_refl _)
      clear hxs hxn
      go_wp2_with fail
      clear hW2
      go_loopw [7, 8] (fun v j wr2 => ∃ (q : Nat) (A2 : Option Addr) (c2 : Nat), q ≤ xs.length ∧ j = .int .i64 q ∧ v = .slice A2 q c2 ∧ wr2.ownsRow wa.heap.size 2 1 (.slice A2 q c2) q ((rkUp xs q).flatMap icells) ∧ Below wa.heap.size wa wr2)
        (fun _ j _ => xs.length - (intOf j).toNat)
      case atStart => exact ⟨0, _, _, by omega, rfl, rfl, HO2.out, HB2.out⟩
      case round =>
        clear HO2 HB2
        obtain ⟨q, A2, c2, hq, rfl, rfl, hO2, hB2⟩ := hrel
        obtain ⟨wb, rfl⟩ : ∃ u, u = wr := ⟨_, rfl⟩
        have HO2 := Lib.hid hO2
        have HB2 := Lib.hid hB2
        clear hO2 hB2
        have hq0 : (0 : Int) ≤ (q : Int) := Int.natCast_nonneg _
        by_cases hlt2 : q < xs.length
        · obtain ⟨x, hx⟩ : ∃ x, xs[q]? = some x := ⟨_, List.getElem?_eq_getElem hlt2⟩
          have hq8 : (q : Int) < n := by have := HXn.out; omega
          have hqx : (q : Int) < xs.length := by omega
          have HX := Lib.hid hx
          have HSt2 : Hid (rkUp xs (q + 1) = rkUp xs q ++ [rkTo xs x xs.length]) := rkUp_succ hx
          clear hx
          go_wp2_with fail
          go_loopw [9, 10] (fun r j wr3 => ∃ (p : Nat), p ≤ xs.length ∧ j = .int .i64 p ∧ r = .int .i64 (rkTo xs x p) ∧ wr3.ownsRow wa.heap.size 2 1 (.slice A2 q c2) q ((rkUp xs q).flatMap icells) ∧ Below wa.heap.size wa wr3)
            (fun _ j _ => xs.length - (intOf j).toNat)
          case atStart => exact ⟨0, by omega, rfl, rfl, HO2.out, HB2.out⟩
          case round =>
            clear HO2 HB2
            obtain ⟨p, hp, rfl, rfl, hO3, hB3⟩ := hrel
            obtain ⟨wc, rfl⟩ : ∃ u, u = wr := ⟨_, rfl⟩
            have HO3 := Lib.hid hO3
            have HB3 := Lib.hid hB3
            clear hO3 hB3
            have hp0 : (0 : Int) ≤ (p : Int) := Int.natCast_nonneg _
            by_cases hlt3 : p < xs.length
            · obtain ⟨y, hy⟩ : ∃ y, xs[p]? = some y := ⟨_, List.getElem?_eq_getElem hlt3⟩
              have hp8 : (p : Int) < n := by have := HXn.out; omega
              have hpx : (p : Int) < xs.length := by omega
              obtain ⟨b, o, a, c', rfl, hb, hc, hrd⟩ := (HR.out.keep (HB.out.trans (HB3.out.mono HB.out.size))).at_ HXs.out
              obtain ⟨b3, o3, rfl, hbl, hrow⟩ := hrd.at_ icells_length hy
              obtain ⟨b4, o4, eA, hbl4, hrow4⟩ := hrd.at_ icells_length HX.out
              obtain ⟨rfl, rfl⟩ : b3 = b4 ∧ o3 = o4 := by simpa using eA
              have e1 := rowI hrow
              have e2 := rowI hrow4
              have HS3 : Hid (rkTo xs x (p + 1) = rkTo xs x p + rkP x y) := rkTo_succ hy
              have hrb := rkTo_b xs x p
              obtain ⟨r, hrr⟩ : ∃ r, rkTo xs x p = r := ⟨_, rfl⟩
              rw [hrr] at HS3 hrb ⊢
              have u1 : IntKind.i64.wrap (r + 2) = r + 2 := IntWalk.i64_in _ ⟨by omega, by omega⟩
              have u2 : wrap64 (r + 2) = r + 2 := IntWalk.wrap64_in _ ⟨by omega, by omega⟩
              have u3 : IntKind.i64.wrap (r + 1) = r + 1 := IntWalk.i64_in _ ⟨by omega, by omega⟩
              have u4 : wrap64 (r + 1) = r + 1 := IntWalk.wrap64_in _ ⟨by omega, by omega⟩
              clear hy hrd hrow hrow4 eA hrr hrb
              rcases Int.lt_trichotomy x y with hxy | hxy | hxy
              · have he : (y == x) = false := by rw [beq_eq_false_iff_ne]; omega
                have hP : Hid (rkP x y = 2) := by show _ = _; rw [rkP, if_pos hxy]
                go_wp2_with fail
                go_region
                go_wp2_with fail
                go_region
                go_wp2
                go_roundw
                case rel => exact ⟨p + 1, by omega, by go_num, by rw [HS3.out, hP.out], by first | exact HO3.out | exact HO3.out.drew | exact HO3.out.drew.drew, by first | exact HB3.out | exact HB3.out.drew | exact HB3.out.drew.drew⟩
                case measure => simp [intOf]; omega
              · have he : (y == x) = true := by rw [beq_iff_eq]; omega
                have hxy' : ¬ x < y := by omega
                have hP : Hid (rkP x y = 1) := by show _ = _; rw [rkP, if_neg hxy', if_pos hxy.symm]
                clear hxy
                go_wp2_with fail
                go_region
                go_wp2_with fail
                go_region
                go_wp2
                go_roundw
                case rel => exact ⟨p + 1, by omega, by go_num, by rw [HS3.out, hP.out], by first | exact HO3.out | exact HO3.out.drew | exact HO3.out.drew.drew, by first | exact HB3.out | exact HB3.out.drew | exact HB3.out.drew.drew⟩
                case measure => simp [intOf]; omega
              · have he : (y == x) = false := by rw [beq_eq_false_iff_ne]; omega
                have hxy' : ¬ x < y := by omega
                have hP : Hid (rkP x y = 0) := by show _ = _; rw [rkP, if_neg hxy', if_neg (by omega)]
                clear hxy
                go_wp2_with fail
                go_region
                go_wp2_with fail
                go_region
                go_wp2
                go_roundw
                case rel => exact ⟨p + 1, by omega, by go_num, by rw [HS3.out, hP.out, Int.add_zero], by first | exact HO3.out | exact HO3.out.drew | exact HO3.out.drew.drew, by first | exact HB3.out | exact HB3.out.drew | exact HB3.out.drew.drew⟩
                case measure => simp [intOf]; omega
            · obtain rfl : p = xs.length := by omega
              have hpn : ¬ ((xs.length : Nat) : Int) < n := by have := HXn.out; omega
              obtain ⟨r, hrr⟩ : ∃ r, rkTo xs x xs.length = r := ⟨_, rfl⟩
              rw [hrr] at HSt2 ⊢
              have HLq : Hid ((rkUp xs q).length = q) := rkUp_len hq
              clear hrr
              go_wp2_with (at_builtin; refine wpList_append_own _ rfl (.tmp 63) (.tmp 65) 30 rfl wa.heap.size 2 i0 (.int .i64 0) 1 8 Tryd.underlying30 HI.out HZ0.out HZ1.out HZ2.out rfl (by decide) _ _ _ rfl (HO3.out.alloc _) ⟨wc.heap.size, 0, none⟩ 1 1 [.int .i64 r] rfl rfl ?e1 ?e2 ?e3 ?e4 ?e5 ?_)
              case e2 => simp [Value.oneCell']
              case e3 => unfold maxLen; omega
              case e4 => omega
              case e5 => have := HB3.out.size; simp; omega
              intro v' w8 hown' hgrow _
              have hown8 : w8.ownsRow wa.heap.size 2 1 v' (rkUp xs (q + 1)).length ((rkUp xs (q + 1)).flatMap icells) := by rw [HSt2.out, List.length_append, List.flatMap_append, HLq.out]; exact hown'
              obtain ⟨A8, c8, rfl, -, -⟩ := own_rd icells_length hown8
              rw [rkUp_len (by omega)] at hown8 ⊢
              have HO8 := Lib.hid hown8
              have HB8 : Hid (Below wa.heap.size wa w8) := (HB3.out.alloc HB3.out.size _).grown hgrow (by have := HB3.out.size; simp; omega) (fun r e => (HO3.out.lt r e).1)
              clear hown' hgrow hown8
              go_wp2
              go_roundw
              case rel => exact ⟨q + 1, A8, c8, by omega, by go_num, by first | rfl | simp, by simpa using HO8.out, HB8.out⟩
              case measure => simp [intOf]; omega
        · obtain rfl : q = xs.length := by omega
          have hqn : ¬ ((xs.length : Nat) : Int) < n := by have := HXn.out; omega
          have HO9 : Hid (wb.ownsRow wa.heap.size 2 1 (.slice A2 (rkL xs).length c2) (rkL xs).length ((rkL xs).flatMap icells)) := by
            have := HO2.out
            rw [rkUp_all] at this
            rw [rkL_len]; exact this
          have hrl : (rkL xs).length = xs.length := rkL_len xs
          obtain ⟨ys, hys⟩ : ∃ ys, rkL xs = ys := ⟨_, rfl⟩
          rw [hys] at HO9 HSt hrl
          rw [← hrl] at hqn
          have hyx : Hid (xs.length = ys.length) := hrl.symm
          have HBn : Hid (Below wb.heap.size wb (wb.alloc (.cells (hcells (A2, ys.length, c2)).toArray 30))) := (Below.refl _ _).alloc (Nat.le_refl _) _
          have HN2 := Lib.hid (HO.out.keep HB2.out)
          rw [hyx.out]
          clear hys hrl
          go_wp2_with (first | (at_builtin; refine wpList_append_any _ rfl (.tmp 67) (.tmp 69) 24 24 rfl w.heap.size 30 j0 (.slice none 0 0) 1 24 Tryd.underlying24 HJ.out HY0.out HY1.out HY2.out rfl (by decide) _ hs.length (hs.flatMap hcells) rfl ?o1 _ 1 (hcells (A2, ys.length, c2)) rfl ?o2 ?o3 ?o4 ?o5 ?_))
          case o1 => exact (HN2.out.keep HBn.out).1
          case o2 => exact src_hd Tryd.underlying24 wb (A2, ys.length, c2)
          case o3 => unfold maxLen; omega
          case o4 => omega
          case o5 => have := HB.out.size; have := HB2.out.size; simp; omega
          intro v' w8 hown' hgrow hblk
          obtain ⟨A8, c8, rfl⟩ : ∃ A8 c8, v' = .slice A8 (hs.length + 1) c8 := by
            rcases hown'.2 with ⟨h1, h2⟩ | ⟨g, cap, cur, h1, -⟩
            · exact ⟨_, _, by rw [h1, h2]⟩
            · exact ⟨_, _, h1⟩
          rw [ownBlock_slice] at hgrow hblk
          rw [ownBlock_slice] at hblk
          have hN8 := HO.out.snoc HB.out.size (HB2.out.trans (HBn.out.mono HB2.out.size)) (own_keep' HO9.out HBn.out) hown' hgrow (hblk.imp id (fun h => h.trans (by simp)))
          rw [← HSt.out] at hN8
          have HN8 := Lib.hid hN8
          have HB8 : Hid (Below w.heap.size w w8) := by
            show Below _ _ _
            have h1 := HB.out.trans ((HB2.out.trans (HBn.out.mono HB2.out.size)).mono HB.out.size)
            exact h1.grown hgrow h1.size (fun r e => (own_block HO.out.1 (by rw [ownBlock_slice]; exact e)).1)
          clear hown' hgrow hblk hN8 HN2 HBn
          go_wp2
          go_roundw
          case rel => exact ⟨k + 1, A8, c8, _, by omega, by go_num, by first | rfl | simp, HN8.out, HB8.out⟩
          case measure => simp [intOf]; omega
    · obtain rfl : k = m.length := by omega
      have HLn := Lib.hid HO.out.2.1
      go_wp2
      go_ret
      exact ⟨A1, c1, hs, by (rw [← HLn.out]; first | done | rfl), HO.out, HB.out⟩
end Go.Proofs.YtlagnocglkoomaaDoor
