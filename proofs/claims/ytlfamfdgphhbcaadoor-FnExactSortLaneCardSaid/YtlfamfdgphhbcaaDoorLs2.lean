/-
  SortLane, the model's contract. Condition: the rack reads as lists of things that are stored, whose numbers fit their kinds, not more than 1048576.
-/
import Derived.Test.YtlfamfdgphhbcaaDoorLs0
import Derived.Test.YtlfamfdgphhbcaaDoorAh
import Derived.BigQuiet
import Derived.Test.YtlfamfdgphhbcaaDoorCy
import Derived.WalkSmall
namespace Go.Proofs.YtlfamfdgphhbcaaDoor
open Go.ChangeShapes Go.WideShapes Go.ChangeAt Go.RowKit Go.Deep

theorem OX.cut {T : Type} {w : World} {g m cap : Nat} {t : TypeId} {cells : T → List Value} {Z : List T} (hs : ∀ b, (cells b).length = m) (h : OX w g t m cells Z cap) {j : Nat} (hj : j ≤ Z.length) : OX w g t m cells (Z.take j) cap := by
  obtain ⟨cur, hg, h2, h3, h4, h5⟩ := h
  have hl : (Z.take j).length = j := by rw [List.length_take]; omega
  refine ⟨cur, hg, by omega, h3, h4, ?_⟩
  have e : (Z.flatMap cells).take (j * m) = (Z.take j).flatMap cells := by
    have e3 : Z.flatMap cells = (Z.take j).flatMap cells ++ (Z.drop j).flatMap cells := by rw [← List.flatMap_append, List.take_append_drop]
    rw [e3, List.take_append_of_le_length (by rw [rows_length hs, hl]; exact Nat.le_refl _), List.take_of_length_le (by rw [rows_length hs, hl]; exact Nat.le_refl _)]
  rw [hl, ← e, ← h5, List.take_take]
  congr 1
  have := Nat.mul_le_mul_right m hj
  omega
theorem OX.rdFrom {T : Type} {w : World} {g m cap : Nat} {t : TypeId} {cells : T → List Value} {Z : List T} (hs : ∀ b, (cells b).length = m) (h : OX w g t m cells Z cap) (j : Nat) : Rd w w.heap.size cells (some ⟨g, j * m, none⟩) (Z.drop j) := fun _ => ⟨g, j * m, rfl, h.lt, fun i v hv => by
  have hg := h.lt
  have e3 : Z.flatMap cells = (Z.take j).flatMap cells ++ (Z.drop j).flatMap cells := by rw [← List.flatMap_append, List.take_append_drop]
  obtain ⟨cur, hg, h2, h3, h4, h5⟩ := h
  by_cases hj : j ≤ Z.length
  · have hu : (Z.flatMap cells)[j * m + i]? = some v := by
      rw [e3, List.getElem?_append_right (by rw [rows_length hs, List.length_take, Nat.min_eq_left hj]; omega), rows_length hs, List.length_take, Nat.min_eq_left hj]
      rw [show j * m + i - j * m = i from by omega]; exact hv
    rw [cell_of_row w g (j * m + i) cur _ (0, 0) hg]
    rw [← h5, List.getElem?_take] at hu
    split at hu
    · simpa using hu
    · cases hu
  · rw [List.drop_of_length_le (by omega)] at hv
    simp at hv⟩
theorem three_cells0 (W : World) (t : TypeId) (k y n : Int) : ∀ (j : Nat) (u : Value), [Value.int .u8 k, .int .i16 y, .int .i16 n][j]? = some u → (W.alloc (.cells #[.int .u8 k, .int .i16 y, .int .i16 n] t)).cell? ((⟨W.heap.size, 0, none⟩ : Addr).add j) = some u := fun j u hu => three_cells W t k y n j u hu
theorem nfL_take {xs : List Wnt} {k j : Nat} {x : Wnt} (hx : xs[k]? = some x) (hj : j ≤ k) (h1 : ∀ y ∈ (nfL (xs.take k)).drop j, decide (nfC x y < 0) = true) (h2 : j = 0 ∨ ∀ y, (nfL (xs.take k))[j - 1]? = some y → decide (nfC x y < 0) = false) : nfL (xs.take (k + 1)) = (nfL (xs.take k)).take j ++ [x] ++ (nfL (xs.take k)).drop j := by
  have hk := (List.getElem?_eq_some_iff.1 hx).1
  have h3 := isL_take (fun a b => decide (nfC a b < 0)) xs hx
  have h4 := insL_at (fun a b => decide (nfC a b < 0)) (nfL (xs.take k)) x (j := j) (by rw [nfL_len, List.length_take]; omega) h1 h2
  unfold nfL at h4 ⊢
  rw [h3, h4]
  simp

set_option maxRecDepth 100000 in
set_option maxHeartbeats 4000000 in
theorem specSortLane_any (xss : List (List Wnt)) (hwf : ∀ xs ∈ xss, ∀ x ∈ xs, wfW x) (A : Option Addr) (c : Nat) (l : Int) (w : World) (hl : xss.length ≤ 1048576) (hx : ∀ xs ∈ xss, xs.length ≤ 1048576) (hr : RdN w w.heap.size wcells A xss) :
    Calls Tryd.prog 15 #[.slice A xss.length c, .int .i64 l] w fun e w' => ∃ A' c', e = .returned (.tuple #[.slice A' (slL xss l).length c', .int .i64 (slC xss l)]) ∧ RdN w' w'.heap.size wcells A' (slL xss l) ∧ Below w.heap.size w w' := by
  obtain ⟨i0, hi, hz0, hz1, hz2⟩ := info_parts Tryd.infoTI
  have HI := Lib.hid hi
  have HZ0 := Lib.hid hz0
  have HZ1 := Lib.hid hz1
  have HZ2 := Lib.hid hz2
  clear hi hz0 hz1 hz2
  have HR := Lib.hid hr
  have HW := Lib.hid hwf
  have HX := Lib.hid hx
  clear hr hwf hx
  go_enter Tryd.func15, Tryd.ntmps15
  go_wp2_with fail
  refine (l04Ok_any xss HW.out A c _ hl HX.out HR.out).mono ?_
  rintro e w1 ⟨rfl, hb⟩
  have J2 := Lib.hid hb
  clear hb
  cases hv : rkOk xss
  · have hc : slC xss l = 1 := by simp [slC, hv]
    have E1 := Lib.hid hc
    have E2 := Lib.hid (slL_no (xss := xss) (l := l) (by omega))
    clear hv hc
    go_wp2
    go_ret2
    exact ⟨_, _, by (rw [E1.out, E2.out]; first | done | rfl), by rw [E2.out]; exact rdN_nil _ _ _ _, J2.out.alloc J2.out.size _⟩
  have HV := Lib.hid hv
  clear hv
  go_wp2_with fail
  refine (l04Lane_any xss.length c A l _ hl).mono ?_
  rintro e w3 ⟨rfl, rfl⟩
  cases hi : inB l xss.length
  · have hc : slC xss l = 2 := by simp [slC, HV.out, hi]
    have E1 := Lib.hid hc
    have E2 := Lib.hid (slL_no (xss := xss) (l := l) (by omega))
    clear hi hc
    go_wp2
    go_ret2
    exact ⟨_, _, by (rw [E1.out, E2.out]; first | done | rfl), by rw [E2.out]; exact rdN_nil _ _ _ _, J2.out.alloc J2.out.size _⟩
  obtain ⟨k, rfl, hk⟩ := inB_nat hi
  have h0 : slC xss (k : Int) = 0 := by simp [slC, HV.out, hi]
  have E1 := Lib.hid h0
  have E2 := Lib.hid (slL_yes h0)
  clear hi h0
  obtain ⟨xs, hxs⟩ : ∃ xs, lnAt xss k = xs := ⟨_, rfl⟩
  have hxk := lnAt_nat hk
  rw [hxs] at hxk E2
  clear hxs
  have HXk := Lib.hid hxk
  have hk0 : (0 : Int) ≤ (k : Int) := Int.natCast_nonneg _
  have hk8 : (k : Int) < xss.length := by omega
  have hx6 := (rkOk_lane HV.out (List.mem_of_getElem? hxk)).1
  have HWx : Hid (∀ x ∈ xs, wfW x) := fun x h => HW.out xs (List.mem_of_getElem? hxk) x h
  go_wp2_with fail
  refine (l04Own_any xss _ c _ hl HX.out (HR.out.keep J2.out)).mono ?_
  rintro e w4 ⟨A1, c1, hs, rfl, hN, hb4⟩
  have HB4 : Hid (Below w.heap.size w w4) := J2.out.trans (hb4.mono J2.out.size)
  obtain ⟨b, o, a0, c', rfl, hbb, hc9, hrd⟩ := (HR.out.keep HB4.out).at_ hxk
  have hlen : hs.length = xss.length := hN.2.1
  have HHK : Hid (k < hs.length) := by show _ < _; omega
  obtain ⟨g0, rfl⟩ : ∃ g, A1 = some ⟨g, 0, none⟩ := by
    rcases hN.1.2 with ⟨e, e2⟩ | ⟨g, cap, cur, hv, -⟩
    · have := HHK.out; omega
    · exact ⟨g, (Value.slice.inj hv).1⟩
  have hg0 := own_block hN.1 rfl
  have HN := Lib.hid (hN.base J2.out.size)
  have HRd := Lib.hid hrd
  have HC9 := Lib.hid hc9
  clear hN hb4 hrd hc9 hxk hg0
  obtain ⟨W5, hW5⟩ : ∃ W, w4.alloc (.cells #[] 90) = W := ⟨_, rfl⟩
  have hB5 : Below w4.heap.size w4 W5 := by rw [← hW5]; exact (Below.refl _ _).alloc (Nat.le_refl _) _
  have hO5 : OX W5 w4.heap.size 90 3 wcells ([] : List Wnt) 0 := ⟨#[], by rw [← hW5]; exact heap_alloc_new w4 _, Nat.le_refl _, by unfold maxLen; omega, by simp, by simp⟩
  have HB5 := Lib.hid hB5
  have HO5 := Lib.hid hO5
  clear hB5 hO5
  rw [← hlen]
  have HLen := Lib.hid hlen
  rw [← hlen] at hk8
  clear hlen
  have HSb : Hid (b < w4.heap.size) := hbb
  clear hbb
  have hxl6 : (xs.length : Int) ≤ 6 := by omega
  go_wp2_with fail
  clear hW5
  go_loopw [7, 8] (fun v i wr => ∃ (n g cap : Nat), n ≤ xs.length ∧ i = .int .i64 n ∧ v = .slice (some ⟨g, 0, none⟩) n cap ∧ OX wr g 90 3 wcells (nfL (xs.take n)) cap ∧ w4.heap.size ≤ g ∧ Below w4.heap.size w4 wr) (fun _ i _ => xs.length - (intOf i).toNat)
  case atStart => exact ⟨0, w4.heap.size, 0, by omega, rfl, rfl, HO5.out, Nat.le_refl _, HB5.out⟩
  case round =>
    clear HO5 HB5
    obtain ⟨n, g, cap, hn, rfl, rfl, hO, hg, hB⟩ := hrel
    obtain ⟨wa, rfl⟩ : ∃ u, u = wr := ⟨_, rfl⟩
    have HO := Lib.hid hO
    have HG := Lib.hid hg
    have HB := Lib.hid hB
    have hn0 : (0 : Int) ≤ (n : Int) := Int.natCast_nonneg _
    have hc1 : wa.cell? ⟨b, o + k, none⟩ = some (.slice a0 xs.length c') := (hB.cell (p := ⟨b, o + k, none⟩) HSb.out).trans HC9.out
    have HSn : Hid ((nfL (xs.take n)).length = n) := by show _ = _; rw [nfL_len, List.length_take]; omega
    have hcap : (n : Int) ≤ cap := by have h1 := hO.choose_spec.2.1; have := HSn.out; omega
    clear hO hg hB
    by_cases hlt : n < xs.length
    · have hn8 : (n : Int) < xs.length := by omega
      obtain ⟨⟨⟨x1, x2⟩, x3⟩, hx⟩ : ∃ x, xs[n]? = some x := ⟨_, List.getElem?_eq_getElem hlt⟩
      obtain ⟨b2, o2, rfl, hbl2, hrow⟩ := (HRd.out.below (Nat.le_refl _) HB.out).at_ wcells_length hx
      have hrow0 : w4.rangeAt b2 (o2 + n * 3) (wcells ((x1, x2), x3)) := by
        obtain ⟨b3, o3, e3, hbl3, hrow3⟩ := HRd.out.at_ wcells_length hx
        obtain ⟨rfl, rfl⟩ : b2 = b3 ∧ o2 = o3 := by simpa using e3
        exact hrow3
      have hbl0 : b2 < w4.heap.size := by
        obtain ⟨b3, o3, e3, hbl3, hrow3⟩ := HRd.out.at_ wcells_length hx
        obtain ⟨rfl, rfl⟩ : b2 = b3 ∧ o2 = o3 := by simpa using e3
        exact hbl3
      have HRow0 := Lib.hid hrow0
      have HBl0 := Lib.hid hbl0
      have HRow := Lib.hid hrow
      clear hrow0 hbl0
      have HBl2 := Lib.hid hbl2
      have HX9 := Lib.hid hx
      clear hrow hbl2 hx
      go_wp2_with fail
      go_loopw [9] (fun i w2 => ∃ (j : Nat), j ≤ n ∧ i = .int .i64 j ∧ (∀ y ∈ (nfL (xs.take n)).drop j, decide (nfC ((x1, x2), x3) y < 0) = true) ∧ Below wa.heap.size wa w2) (fun i _ => (intOf i).toNat)
      case atStart => exact ⟨n, Nat.le_refl _, rfl, fun y hy => by rw [List.drop_of_length_le (by rw [HSn.out]; exact Nat.le_refl _)] at hy; simp at hy, Below.refl _ _⟩
      case round =>
        obtain ⟨j, hj, rfl, hq, hB2⟩ := hrel
        obtain ⟨wb, rfl⟩ : ∃ u, u = wr := ⟨_, rfl⟩
        have HQ := Lib.hid hq
        have HB2 := Lib.hid hB2
        have HOb := Lib.hid (HO.out.keep hB2)
        have HBb : Hid (Below w4.heap.size w4 wb) := HB.out.trans (hB2.mono HB.out.size)
        have hc2 : wb.cell? ⟨b, o + k, none⟩ = some (.slice (some ⟨b2, o2, none⟩) xs.length c') := (HBb.out.cell (p := ⟨b, o + k, none⟩) HSb.out).trans HC9.out
        have hrw : wb.rangeAt b2 (o2 + n * 3) (wcells ((x1, x2), x3)) := rangeAt_below HRow.out hB2 (Nat.lt_of_lt_of_le HBl2.out HB.out.size)
        have hj0 : (0 : Int) ≤ (j : Int) := Int.natCast_nonneg _
        have hjn : (j : Int) ≤ n := by omega
        have hjc : (j : Int) ≤ cap := by omega
        have HRW := Lib.hid hrw
        clear hq hB2 hc1
        have HSTOP : Hid ((j = 0 ∨ ∀ y, (nfL (xs.take n))[j - 1]? = some y → decide (nfC ((x1, x2), x3) y < 0) = false) → nfL (xs.take (n + 1)) = (nfL (xs.take n)).take j ++ [((x1, x2), x3)] ++ (nfL (xs.take n)).drop j) := fun h => nfL_take HX9.out hj HQ.out h
        have HN1 : Hid (n + 1 ≤ xs.length) := hlt
        have HMs : Hid (xs.length - (n + 1) < xs.length - n) := by show _ < _; omega
        have HRow4 : Hid (w4.rangeAt b2 (o2 + n * 3) (wcells ((x1, x2), x3))) := HRow0.out
        have HBl4 : Hid (b2 < w4.heap.size) := HBl0.out
        by_cases hz : j = 0
        · have hng : ¬ (0 : Int) < (j : Int) := by omega
          have hngN : ¬ 0 < j := by omega
          have HSt := Lib.hid (HSTOP.out (.inl hz))
          clear HSTOP HQ hz
          go_wp2_with fail
          go_quiet (fail)
          by_cases hcj : j = cap
          · subst hcj
            obtain ⟨wq, hwq⟩ : ∃ q, wb.drewN nq = q := ⟨_, rfl⟩
            have HBq : Hid (Below w4.heap.size w4 wq) := by rw [← hwq]; exact below_drewN HBb.out nq
            have HOq : Hid (OX wq g 90 3 wcells (nfL (xs.take n)) j) := by rw [← hwq]; exact HOb.out.keep (below_drewN (Below.refl _ _) nq)
            rw [hwq]
            clear hwq HOb
            have HBr : Hid (Below wq.heap.size wq (wq.alloc (.cells #[] 90))) := (Below.refl _ _).alloc (Nat.le_refl _) _
            have hsr := src_of_rd _ Tryd.underlying88 wcells_length wcells_one (A := some ⟨g, 0, none⟩) (c := 0) (xs := (nfL (xs.take n)).drop j) (fun h => by rw [List.length_drop, HSn.out] at h; omega : Rd (wq.alloc (.cells #[] 90)) (wq.alloc (.cells #[] 90)).heap.size wcells (some ⟨g, 0, none⟩) ((nfL (xs.take n)).drop j))
            rw [List.length_drop, HSn.out] at hsr
            have HSr := Lib.hid hsr
            clear hsr
            go_wp2_with (at_builtin; refine wpList_append_any _ rfl (.tmp 55) (.tmp 58) 88 88 rfl wq.heap.size 90 i0 (.agg #[.int .u8 0, .int .i16 0, .int .i16 0]) 3 6 Tryd.underlying88 HI.out HZ0.out HZ1.out HZ2.out rfl (by decide) _ 0 [] rfl ?own _ (n - j) (((nfL (xs.take n)).drop j).flatMap wcells) rfl ?src ?c3 ?c4 ?c5 ?_)
            case own => exact empty_own wq _ 3
            case src => exact HSr.out
            case c3 => unfold maxLen; omega
            case c4 => omega
            case c5 => simp
            intro v' w6 hown hgr _
            have hown6 : w6.ownsRow wq.heap.size 90 3 v' (n - j) (((nfL (xs.take n)).drop j).flatMap wcells) := by simpa using hown
            have hown6' : w6.ownsRow wq.heap.size 90 3 v' ((nfL (xs.take n)).drop j).length (((nfL (xs.take n)).drop j).flatMap wcells) := by rw [List.length_drop, HSn.out]; exact hown6
            obtain ⟨A6, c6, rfl, -, -⟩ := own_rd wcells_length hown6'
            have hB6 : Below wq.heap.size wq w6 := HBr.out.grown hgr (by simp) (fun q e => by
              have e2 : wq.heap.size = q := by simpa [Value.ownBlock] using e
              omega)
            rw [List.length_drop, HSn.out] at hown6'
            have HR6 := Lib.hid hown6'
            have HO6 : Hid (OX w6.drew g 90 3 wcells (nfL (xs.take n)) j) := HOq.out.keep hB6.drew
            have HB6 : Hid (Below w4.heap.size w4 w6.drew) := (HBq.out.trans (hB6.mono HBq.out.size)).drew
            have HQS : Hid (g < wq.heap.size) := HOq.out.lt
            have HQ6 : Hid (wq.heap.size ≤ w6.heap.size) := hB6.size
            clear hown hgr hown6 hown6' hB6 HSr HOq HBr
            rw [List.length_drop, HSn.out]
            go_wp2_with fail
            refine wp_region_held_drew (S := fun w' => Below w4.heap.size w4 w') (by kernel_rfl) HB6.out (fun hHeld => ?_)
            refine wpAnyH_take (i := 0) (v := .slice (some ⟨g, 0, none⟩) n j) rfl (by kernel_rfl) (by kernel_rfl) (by kernel_rfl) (fun _ _ _ h => h) (Or.inl ⟨by rfl, fun w' h => by go_simp⟩) (by assumption) ?_
            try simp only [Act.put, List.getElem_toArray, List.getElem_cons_zero, List.getElem_cons_succ, List.setIfInBounds_toArray, List.set_cons_zero, List.set_cons_succ]
            refine wpAnyH_take (i := 1) (v := .int .i64 j) rfl (by kernel_rfl) (by kernel_rfl) (by kernel_rfl) (fun _ _ _ h => h) (Or.inl ⟨by rfl, fun w' h => by go_simp⟩) (by assumption) ?_
            try simp only [Act.put, List.getElem_toArray, List.getElem_cons_zero, List.getElem_cons_succ, List.setIfInBounds_toArray, List.set_cons_zero, List.set_cons_succ]
            refine wpAnyH_take (i := 2) (v := .slice (some ⟨g, 0, none⟩) j j) rfl (by kernel_rfl) (by kernel_rfl) (by kernel_rfl) (fun _ _ _ h => h) (Or.inl ⟨by rfl, fun w' h => by go_simp⟩) (by assumption) ?_
            try simp only [Act.put, List.getElem_toArray, List.getElem_cons_zero, List.getElem_cons_succ, List.setIfInBounds_toArray, List.set_cons_zero, List.set_cons_succ]
            refine wpAnyH_take (i := 3) (v := .slice (some ⟨b, o, none⟩) hs.length c) rfl (by kernel_rfl) (by kernel_rfl) (by kernel_rfl) (fun _ _ _ h => h) (Or.inl ⟨by rfl, fun w' h => by go_simp⟩) (by assumption) ?_
            try simp only [Act.put, List.getElem_toArray, List.getElem_cons_zero, List.getElem_cons_succ, List.setIfInBounds_toArray, List.set_cons_zero, List.set_cons_succ]
            refine wpAnyH_take (i := 4) (v := .int .i64 k) rfl (by kernel_rfl) (by kernel_rfl) (by kernel_rfl) (fun _ _ _ h => h) (Or.inl ⟨by rfl, fun w' h => by go_simp⟩) (by assumption) ?_
            try simp only [Act.put, List.getElem_toArray, List.getElem_cons_zero, List.getElem_cons_succ, List.setIfInBounds_toArray, List.set_cons_zero, List.set_cons_succ]
            refine wpAnyH_take (i := 5) (v := .pointer (some ⟨b, o + k, none⟩)) rfl (by kernel_rfl) (by kernel_rfl) (by kernel_rfl) (fun _ _ _ h => h) (Or.inl ⟨by rfl, fun w' h => by go_simp⟩) (by assumption) ?_
            try simp only [Act.put, List.getElem_toArray, List.getElem_cons_zero, List.getElem_cons_succ, List.setIfInBounds_toArray, List.set_cons_zero, List.set_cons_succ]
            refine wpAnyH_take (i := 6) (v := .slice (some ⟨b2, o2, none⟩) xs.length c') rfl (by kernel_rfl) (by kernel_rfl) (by kernel_rfl) (fun _ _ _ h => h) (Or.inl ⟨by rfl, fun w' h => by have e9 := (h.cell (p := ⟨b, o + k, none⟩) HSb.out).trans HC9.out; go_simp⟩) (by assumption) ?_
            try simp only [Act.put, List.getElem_toArray, List.getElem_cons_zero, List.getElem_cons_succ, List.setIfInBounds_toArray, List.set_cons_zero, List.set_cons_succ]
            refine wpAnyH_take (i := 7) (v := .int .i64 n) rfl (by kernel_rfl) (by kernel_rfl) (by kernel_rfl) (fun _ _ _ h => h) (Or.inl ⟨by rfl, fun w' h => by go_simp⟩) (by assumption) ?_
            try simp only [Act.put, List.getElem_toArray, List.getElem_cons_zero, List.getElem_cons_succ, List.setIfInBounds_toArray, List.set_cons_zero, List.set_cons_succ]
            refine wpAnyH_take (i := 8) (v := .pointer (some ⟨b2, o2 + n * 3, none⟩)) rfl (by kernel_rfl) (by kernel_rfl) (by kernel_rfl) (fun _ _ _ h => h) (Or.inl ⟨by rfl, fun w' h => by go_simp⟩) (by assumption) ?_
            try simp only [Act.put, List.getElem_toArray, List.getElem_cons_zero, List.getElem_cons_succ, List.setIfInBounds_toArray, List.set_cons_zero, List.set_cons_succ]
            refine' wpAnyH_take (i := 9) (v := _) rfl (by kernel_rfl) (by kernel_rfl) (by kernel_rfl) (fun _ _ _ h => h) (yieldsIf_load_mid (by rfl) 90 (.tmp 68) rfl b2 (o2 + n * 3) rfl (wcells ((x1, x2), x3)) _ (fun w' h => fun j v hv => (rangeAt_below HRow4.out h HBl4.out) j v hv) Tryd.underlying90 rfl Tryd.sizeTI) (by assumption) ?_
            try simp only [Act.put, List.getElem_toArray, List.getElem_cons_zero, List.getElem_cons_succ, List.setIfInBounds_toArray, List.set_cons_zero, List.set_cons_succ]
            refine wpAnyH_take (i := 12) (v := .slice A6 (n - j) c6) rfl (by kernel_rfl) (by kernel_rfl) (by kernel_rfl) (fun _ _ _ h => h) (Or.inl ⟨by rfl, fun w' h => by go_simp⟩) (by assumption) ?_
            try simp only [Act.put, List.getElem_toArray, List.getElem_cons_zero, List.getElem_cons_succ, List.setIfInBounds_toArray, List.set_cons_zero, List.set_cons_succ]
            obtain ⟨D0, hD0⟩ : ∃ D0, w6.drew = D0 := ⟨_, rfl⟩
            have HR6d : Hid (w6.drew.ownsRow wq.heap.size 90 3 (.slice A6 (n - j) c6) (n - j) (((nfL (xs.take n)).drop j).flatMap wcells)) := HR6.out
            have HQ6d : Hid (wq.heap.size ≤ w6.drew.heap.size) := HQ6.out
            rw [hD0] at hHeld HO6 HB6 HR6d HQ6d ⊢
            clear hD0 HR6 HQ6
            refine wpAnyH_ready (rs := [10]) (by kernel_rfl) (by simp) ?_
            refine AllReadyH.cons rfl (fun K hK => ?_) AllReadyH.nil
            refine if_wanted rfl ?_
            go_simp
            have HA9 : Hid (Below D0.heap.size D0 (D0.alloc (.cells #[.int .u8 x1, .int .i16 x2, .int .i16 x3] 90))) := (Below.refl _ _).alloc (Nat.le_refl _) _
            have HB9 : Hid (Below w4.heap.size w4 (D0.alloc (.cells #[.int .u8 x1, .int .i16 x2, .int .i16 x3] 90))) := HB6.out.trans (HA9.out.mono HB6.out.size)
            refine hK.out _ _ HB9.out (fun hHeld => ?_)
            clear hK K hHeld
            try simp only [Act.put, List.getElem_toArray, List.getElem_cons_zero, List.getElem_cons_succ, List.setIfInBounds_toArray, List.set_cons_zero, List.set_cons_succ]
            have HO9 : Hid ((D0.alloc (.cells #[.int .u8 x1, .int .i16 x2, .int .i16 x3] 90)).ownsRow w4.heap.size 90 3 (.slice (some ⟨g, 0, none⟩) j j) j (((nfL (xs.take n)).take j).flatMap wcells)) := by
              have h1 := ((HO6.out.cut wcells_length (j := j) (by rw [HSn.out]; exact hj)).keep HA9.out).own wcells_length HG.out
              rw [List.length_take, HSn.out, Nat.min_eq_left hj] at h1
              exact h1
            refine wpAnyH_ready (rs := [11]) (by kernel_rfl) (by simp) ?_
            refine AllReadyH.cons rfl (fun K hK => ?_) AllReadyH.nil
            refine if_wanted rfl (wp_append_any _ (.tmp 62) (.tmp 70) 88 88 rfl w4.heap.size 90 i0 (.agg #[.int .u8 0, .int .i16 0, .int .i16 0]) 3 6 Tryd.underlying88 HI.out HZ0.out HZ1.out HZ2.out rfl (by decide) (.slice (some ⟨g, 0, none⟩) j j) j (((nfL (xs.take n)).take j).flatMap wcells) rfl HO9.out _ 1 [.int .u8 x1, .int .i16 x2, .int .i16 x3] rfl (Src.ofSlice _ Tryd.underlying88 ⟨D0.heap.size, 0, none⟩ 1 1 _ rfl (three_cells0 D0 _ x1 x2 x3) (by intro u hu; simp only [List.mem_cons, List.not_mem_nil, or_false] at hu; rcases hu with rfl | rfl | rfl <;> rfl)) (by unfold maxLen; omega) (by omega) HB9.out.size ?_)
            intro v' w7 hown7 hgr7 hbk7
            have hown7' : w7.ownsRow w4.heap.size 90 3 v' ((nfL (xs.take n)).take j ++ [((x1, x2), x3)]).length (((nfL (xs.take n)).take j ++ [((x1, x2), x3)]).flatMap wcells) := by rw [List.length_append, List.flatMap_append, List.length_take, HSn.out, Nat.min_eq_left hj]; simpa [wcells] using hown7
            obtain ⟨A7, c7, rfl, -, -⟩ := own_rd wcells_length hown7'
            have HL7 : Hid (((nfL (xs.take n)).take j ++ [((x1, x2), x3)]).length = j + 1) := by show _ = _; rw [List.length_append, List.length_take, HSn.out, Nat.min_eq_left hj]; rfl
            rw [HL7.out] at hown7'
            have HO7 := Lib.hid hown7'
            rw [HL7.out] at hbk7 ⊢
            have HB7 : Hid (Below w4.heap.size w4 w7) := HB9.out.grown hgr7 HB9.out.size (fun q e => by
              have e2 : g = q := by simpa [Value.ownBlock] using e
              have := HG.out; omega)
            have HR7 : Hid (w7.ownsRow wq.heap.size 90 3 (.slice A6 (n - j) c6) (n - j) (((nfL (xs.take n)).drop j).flatMap wcells)) := gk_own (own_keep' HR6d.out HA9.out) hgr7 (fun q e => by
              have e2 : g = q := by simpa [Value.ownBlock] using e
              have := HQS.out; omega)
            have HQ7 : Hid (wq.heap.size ≤ w7.heap.size) := Nat.le_trans HQ6d.out (Nat.le_trans HA9.out.size hgr7.size)
            clear hown7 hown7' hgr7 hbk7 HR6d HQ6d HO9 HA9 HO6
            refine hK.out _ _ HB7.out (fun hHeld => ?_)
            clear hK K hHeld
            try simp only [Act.put, List.getElem_toArray, List.getElem_cons_zero, List.getElem_cons_succ, List.setIfInBounds_toArray, List.set_cons_zero, List.set_cons_succ]
            refine wpAnyH_ready (rs := [13]) (by kernel_rfl) (by simp) ?_
            refine AllReadyH.cons rfl (fun K hK => ?_) AllReadyH.nil
            have hs6 : Rd w7 w7.heap.size wcells A6 ((nfL (xs.take n)).drop j) := own_rd2 (c := c6) wcells_length (by rw [List.length_drop, HSn.out]; exact HR7.out)
            have hsr6 := src_of_rd _ Tryd.underlying88 wcells_length wcells_one (c := c6) hs6
            rw [List.length_drop, HSn.out] at hsr6
            refine if_wanted rfl (wp_append_any _ (.tmp 71) (.tmp 72) 88 88 rfl w4.heap.size 90 i0 (.agg #[.int .u8 0, .int .i16 0, .int .i16 0]) 3 6 Tryd.underlying88 HI.out HZ0.out HZ1.out HZ2.out rfl (by decide) _ (j + 1) (((nfL (xs.take n)).take j ++ [((x1, x2), x3)]).flatMap wcells) rfl HO7.out _ (n - j) (((nfL (xs.take n)).drop j).flatMap wcells) rfl hsr6 (by unfold maxLen; omega) (by omega) HB7.out.size ?_)
            intro v8 w8 hown8 hgr8 hbk8
            have HL8 : Hid (j + 1 + (n - j) = n + 1) := by show _ = _; omega
            have hown9 : w8.ownsRow w4.heap.size 90 3 v8 (nfL (xs.take (n + 1))).length ((nfL (xs.take (n + 1))).flatMap wcells) := by rw [HSt.out, List.flatMap_append, List.length_append, HL7.out, List.length_drop, HSn.out]; exact hown8
            have HB8 : Hid (Below w4.heap.size w4 w8) := HB7.out.grown hgr8 HB7.out.size (fun q e => (own_block HO7.out e).1)
            obtain ⟨-, h0⟩ | ⟨g8, cap8, rfl, hg8, hOX8⟩ := OX.of hown9
            · have := congrArg List.length (HSt.out.symm.trans h0)
              rw [List.length_append, HL7.out] at this
              simp at this
            have HN8 : Hid ((nfL (xs.take (n + 1))).length = n + 1) := by show _ = _; rw [HSt.out, List.length_append, HL7.out, List.length_drop, HSn.out]; omega
            rw [HN8.out]
            have HO8 := Lib.hid hOX8
            have HG8 := Lib.hid hg8
            clear hown8 hown9 hgr8 hbk8 hOX8 hg8 hs6 hsr6 HR7 HO7
            refine hK.out _ _ HB8.out (fun hHeld => ?_)
            clear hK K
            try simp only [Act.put, List.getElem_toArray, List.getElem_cons_zero, List.getElem_cons_succ, List.setIfInBounds_toArray, List.set_cons_zero, List.set_cons_succ]
            refine wpAnyH_ready (rs := [14]) (by kernel_rfl) (by simp) ?_
            refine AllReadyH.cons rfl (fun K hK => ?_) AllReadyH.nil
            refine if_wanted rfl ?_
            refine wp_assign0 (v := .slice (some ⟨g8, 0, none⟩) (n + 1) cap8) rfl rfl ?_
            refine hK.out _ _ hHeld (fun hHeld => ?_)
            clear hK K
            try simp only [Act.put, List.getElem_toArray, List.getElem_cons_zero, List.getElem_cons_succ, List.setIfInBounds_toArray, List.set_cons_zero, List.set_cons_succ]
            refine wpAnyH_done (by kernel_rfl) ?_ _
            try simp only [Act.put, List.getElem_toArray, List.getElem_cons_zero, List.getElem_cons_succ, List.setIfInBounds_toArray, List.set_cons_zero, List.set_cons_succ]
            have hb := hHeld
            clear hHeld
            go_wp2
            go_roundw
            case rel => exact ⟨n + 1, g8, cap8, HN1.out, by go_num, rfl, HO8.out, HG8.out, HB8.out⟩
            case measure => first | exact HMs.out | (have hms := HMs.out; simp [intOf]; omega)
          · have hcj2 : ¬ cap - j = 0 := by omega
            have hcj3 : ¬ cap ≤ j := by omega
            have hcj4 : j < cap := by omega
            obtain ⟨wq, hwq⟩ : ∃ q, wb.drewN nq = q := ⟨_, rfl⟩
            have HBq : Hid (Below w4.heap.size w4 wq) := by rw [← hwq]; exact below_drewN HBb.out nq
            have HOq : Hid (OX wq g 90 3 wcells (nfL (xs.take n)) cap) := by rw [← hwq]; exact HOb.out.keep (below_drewN (Below.refl _ _) nq)
            rw [hwq]
            clear hwq HOb
            have HBr : Hid (Below wq.heap.size wq (wq.alloc (.cells #[] 90))) := (Below.refl _ _).alloc (Nat.le_refl _) _
            have hsr := src_of_rd _ Tryd.underlying88 wcells_length wcells_one (c := cap - j) ((HOq.out.rdFrom wcells_length j).keep HBr.out)
            rw [List.length_drop, HSn.out] at hsr
            have HSr := Lib.hid hsr
            clear hsr
            go_wp2_with (at_builtin; refine wpList_append_any _ rfl (.tmp 55) (.tmp 58) 88 88 rfl wq.heap.size 90 i0 (.agg #[.int .u8 0, .int .i16 0, .int .i16 0]) 3 6 Tryd.underlying88 HI.out HZ0.out HZ1.out HZ2.out rfl (by decide) _ 0 [] rfl ?own _ (n - j) (((nfL (xs.take n)).drop j).flatMap wcells) rfl ?src ?c3 ?c4 ?c5 ?_)
            case own => exact empty_own wq _ 3
            case src => exact HSr.out
            case c3 => unfold maxLen; omega
            case c4 => omega
            case c5 => simp
            intro v' w6 hown hgr _
            have hown6 : w6.ownsRow wq.heap.size 90 3 v' (n - j) (((nfL (xs.take n)).drop j).flatMap wcells) := by simpa using hown
            have hown6' : w6.ownsRow wq.heap.size 90 3 v' ((nfL (xs.take n)).drop j).length (((nfL (xs.take n)).drop j).flatMap wcells) := by rw [List.length_drop, HSn.out]; exact hown6
            obtain ⟨A6, c6, rfl, -, -⟩ := own_rd wcells_length hown6'
            have hB6 : Below wq.heap.size wq w6 := HBr.out.grown hgr (by simp) (fun q e => by
              have e2 : wq.heap.size = q := by simpa [Value.ownBlock] using e
              omega)
            rw [List.length_drop, HSn.out] at hown6'
            have HR6 := Lib.hid hown6'
            have HO6 : Hid (OX w6.drew g 90 3 wcells (nfL (xs.take n)) cap) := HOq.out.keep hB6.drew
            have HB6 : Hid (Below w4.heap.size w4 w6.drew) := (HBq.out.trans (hB6.mono HBq.out.size)).drew
            have HQS : Hid (g < wq.heap.size) := HOq.out.lt
            have HQ6 : Hid (wq.heap.size ≤ w6.heap.size) := hB6.size
            clear hown hgr hown6 hown6' hB6 HSr HOq HBr
            rw [List.length_drop, HSn.out]
            go_wp2_with fail
            refine wp_region_held_drew (S := fun w' => Below w4.heap.size w4 w') (by kernel_rfl) HB6.out (fun hHeld => ?_)
            refine wpAnyH_take (i := 0) (v := .slice (some ⟨g, 0, none⟩) n cap) rfl (by kernel_rfl) (by kernel_rfl) (by kernel_rfl) (fun _ _ _ h => h) (Or.inl ⟨by rfl, fun w' h => by go_simp⟩) (by assumption) ?_
            try simp only [Act.put, List.getElem_toArray, List.getElem_cons_zero, List.getElem_cons_succ, List.setIfInBounds_toArray, List.set_cons_zero, List.set_cons_succ]
            refine wpAnyH_take (i := 1) (v := .int .i64 j) rfl (by kernel_rfl) (by kernel_rfl) (by kernel_rfl) (fun _ _ _ h => h) (Or.inl ⟨by rfl, fun w' h => by go_simp⟩) (by assumption) ?_
            try simp only [Act.put, List.getElem_toArray, List.getElem_cons_zero, List.getElem_cons_succ, List.setIfInBounds_toArray, List.set_cons_zero, List.set_cons_succ]
            refine wpAnyH_take (i := 2) (v := .slice (some ⟨g, 0, none⟩) j cap) rfl (by kernel_rfl) (by kernel_rfl) (by kernel_rfl) (fun _ _ _ h => h) (Or.inl ⟨by rfl, fun w' h => by go_simp⟩) (by assumption) ?_
            try simp only [Act.put, List.getElem_toArray, List.getElem_cons_zero, List.getElem_cons_succ, List.setIfInBounds_toArray, List.set_cons_zero, List.set_cons_succ]
            refine wpAnyH_take (i := 3) (v := .slice (some ⟨b, o, none⟩) hs.length c) rfl (by kernel_rfl) (by kernel_rfl) (by kernel_rfl) (fun _ _ _ h => h) (Or.inl ⟨by rfl, fun w' h => by go_simp⟩) (by assumption) ?_
            try simp only [Act.put, List.getElem_toArray, List.getElem_cons_zero, List.getElem_cons_succ, List.setIfInBounds_toArray, List.set_cons_zero, List.set_cons_succ]
            refine wpAnyH_take (i := 4) (v := .int .i64 k) rfl (by kernel_rfl) (by kernel_rfl) (by kernel_rfl) (fun _ _ _ h => h) (Or.inl ⟨by rfl, fun w' h => by go_simp⟩) (by assumption) ?_
            try simp only [Act.put, List.getElem_toArray, List.getElem_cons_zero, List.getElem_cons_succ, List.setIfInBounds_toArray, List.set_cons_zero, List.set_cons_succ]
            refine wpAnyH_take (i := 5) (v := .pointer (some ⟨b, o + k, none⟩)) rfl (by kernel_rfl) (by kernel_rfl) (by kernel_rfl) (fun _ _ _ h => h) (Or.inl ⟨by rfl, fun w' h => by go_simp⟩) (by assumption) ?_
            try simp only [Act.put, List.getElem_toArray, List.getElem_cons_zero, List.getElem_cons_succ, List.setIfInBounds_toArray, List.set_cons_zero, List.set_cons_succ]
            refine wpAnyH_take (i := 6) (v := .slice (some ⟨b2, o2, none⟩) xs.length c') rfl (by kernel_rfl) (by kernel_rfl) (by kernel_rfl) (fun _ _ _ h => h) (Or.inl ⟨by rfl, fun w' h => by have e9 := (h.cell (p := ⟨b, o + k, none⟩) HSb.out).trans HC9.out; go_simp⟩) (by assumption) ?_
            try simp only [Act.put, List.getElem_toArray, List.getElem_cons_zero, List.getElem_cons_succ, List.setIfInBounds_toArray, List.set_cons_zero, List.set_cons_succ]
            refine wpAnyH_take (i := 7) (v := .int .i64 n) rfl (by kernel_rfl) (by kernel_rfl) (by kernel_rfl) (fun _ _ _ h => h) (Or.inl ⟨by rfl, fun w' h => by go_simp⟩) (by assumption) ?_
            try simp only [Act.put, List.getElem_toArray, List.getElem_cons_zero, List.getElem_cons_succ, List.setIfInBounds_toArray, List.set_cons_zero, List.set_cons_succ]
            refine wpAnyH_take (i := 8) (v := .pointer (some ⟨b2, o2 + n * 3, none⟩)) rfl (by kernel_rfl) (by kernel_rfl) (by kernel_rfl) (fun _ _ _ h => h) (Or.inl ⟨by rfl, fun w' h => by go_simp⟩) (by assumption) ?_
            try simp only [Act.put, List.getElem_toArray, List.getElem_cons_zero, List.getElem_cons_succ, List.setIfInBounds_toArray, List.set_cons_zero, List.set_cons_succ]
            refine' wpAnyH_take (i := 9) (v := _) rfl (by kernel_rfl) (by kernel_rfl) (by kernel_rfl) (fun _ _ _ h => h) (yieldsIf_load_mid (by rfl) 90 (.tmp 68) rfl b2 (o2 + n * 3) rfl (wcells ((x1, x2), x3)) _ (fun w' h => fun j v hv => (rangeAt_below HRow4.out h HBl4.out) j v hv) Tryd.underlying90 rfl Tryd.sizeTI) (by assumption) ?_
            try simp only [Act.put, List.getElem_toArray, List.getElem_cons_zero, List.getElem_cons_succ, List.setIfInBounds_toArray, List.set_cons_zero, List.set_cons_succ]
            refine wpAnyH_take (i := 12) (v := .slice A6 (n - j) c6) rfl (by kernel_rfl) (by kernel_rfl) (by kernel_rfl) (fun _ _ _ h => h) (Or.inl ⟨by rfl, fun w' h => by go_simp⟩) (by assumption) ?_
            try simp only [Act.put, List.getElem_toArray, List.getElem_cons_zero, List.getElem_cons_succ, List.setIfInBounds_toArray, List.set_cons_zero, List.set_cons_succ]
            obtain ⟨D0, hD0⟩ : ∃ D0, w6.drew = D0 := ⟨_, rfl⟩
            have HR6d : Hid (w6.drew.ownsRow wq.heap.size 90 3 (.slice A6 (n - j) c6) (n - j) (((nfL (xs.take n)).drop j).flatMap wcells)) := HR6.out
            have HQ6d : Hid (wq.heap.size ≤ w6.drew.heap.size) := HQ6.out
            rw [hD0] at hHeld HO6 HB6 HR6d HQ6d ⊢
            clear hD0 HR6 HQ6
            refine wpAnyH_ready (rs := [10]) (by kernel_rfl) (by simp) ?_
            refine AllReadyH.cons rfl (fun K hK => ?_) AllReadyH.nil
            refine if_wanted rfl ?_
            go_simp
            have HA9 : Hid (Below D0.heap.size D0 (D0.alloc (.cells #[.int .u8 x1, .int .i16 x2, .int .i16 x3] 90))) := (Below.refl _ _).alloc (Nat.le_refl _) _
            have HB9 : Hid (Below w4.heap.size w4 (D0.alloc (.cells #[.int .u8 x1, .int .i16 x2, .int .i16 x3] 90))) := HB6.out.trans (HA9.out.mono HB6.out.size)
            refine hK.out _ _ HB9.out (fun hHeld => ?_)
            clear hK K hHeld
            try simp only [Act.put, List.getElem_toArray, List.getElem_cons_zero, List.getElem_cons_succ, List.setIfInBounds_toArray, List.set_cons_zero, List.set_cons_succ]
            have HO9 : Hid ((D0.alloc (.cells #[.int .u8 x1, .int .i16 x2, .int .i16 x3] 90)).ownsRow w4.heap.size 90 3 (.slice (some ⟨g, 0, none⟩) j cap) j (((nfL (xs.take n)).take j).flatMap wcells)) := by
              have h1 := ((HO6.out.cut wcells_length (j := j) (by rw [HSn.out]; exact hj)).keep HA9.out).own wcells_length HG.out
              rw [List.length_take, HSn.out, Nat.min_eq_left hj] at h1
              exact h1
            refine wpAnyH_ready (rs := [11]) (by kernel_rfl) (by simp) ?_
            refine AllReadyH.cons rfl (fun K hK => ?_) AllReadyH.nil
            refine if_wanted rfl (wp_append_any _ (.tmp 62) (.tmp 70) 88 88 rfl w4.heap.size 90 i0 (.agg #[.int .u8 0, .int .i16 0, .int .i16 0]) 3 6 Tryd.underlying88 HI.out HZ0.out HZ1.out HZ2.out rfl (by decide) (.slice (some ⟨g, 0, none⟩) j cap) j (((nfL (xs.take n)).take j).flatMap wcells) rfl HO9.out _ 1 [.int .u8 x1, .int .i16 x2, .int .i16 x3] rfl (Src.ofSlice _ Tryd.underlying88 ⟨D0.heap.size, 0, none⟩ 1 1 _ rfl (three_cells0 D0 _ x1 x2 x3) (by intro u hu; simp only [List.mem_cons, List.not_mem_nil, or_false] at hu; rcases hu with rfl | rfl | rfl <;> rfl)) (by unfold maxLen; omega) (by omega) HB9.out.size ?_)
            intro v' w7 hown7 hgr7 hbk7
            have hown7' : w7.ownsRow w4.heap.size 90 3 v' ((nfL (xs.take n)).take j ++ [((x1, x2), x3)]).length (((nfL (xs.take n)).take j ++ [((x1, x2), x3)]).flatMap wcells) := by rw [List.length_append, List.flatMap_append, List.length_take, HSn.out, Nat.min_eq_left hj]; simpa [wcells] using hown7
            obtain ⟨A7, c7, rfl, -, -⟩ := own_rd wcells_length hown7'
            have HL7 : Hid (((nfL (xs.take n)).take j ++ [((x1, x2), x3)]).length = j + 1) := by show _ = _; rw [List.length_append, List.length_take, HSn.out, Nat.min_eq_left hj]; rfl
            rw [HL7.out] at hown7'
            have HO7 := Lib.hid hown7'
            rw [HL7.out] at hbk7 ⊢
            have HB7 : Hid (Below w4.heap.size w4 w7) := HB9.out.grown hgr7 HB9.out.size (fun q e => by
              have e2 : g = q := by simpa [Value.ownBlock] using e
              have := HG.out; omega)
            have HR7 : Hid (w7.ownsRow wq.heap.size 90 3 (.slice A6 (n - j) c6) (n - j) (((nfL (xs.take n)).drop j).flatMap wcells)) := gk_own (own_keep' HR6d.out HA9.out) hgr7 (fun q e => by
              have e2 : g = q := by simpa [Value.ownBlock] using e
              have := HQS.out; omega)
            have HQ7 : Hid (wq.heap.size ≤ w7.heap.size) := Nat.le_trans HQ6d.out (Nat.le_trans HA9.out.size hgr7.size)
            clear hown7 hown7' hgr7 hbk7 HR6d HQ6d HO9 HA9 HO6
            refine hK.out _ _ HB7.out (fun hHeld => ?_)
            clear hK K hHeld
            try simp only [Act.put, List.getElem_toArray, List.getElem_cons_zero, List.getElem_cons_succ, List.setIfInBounds_toArray, List.set_cons_zero, List.set_cons_succ]
            refine wpAnyH_ready (rs := [13]) (by kernel_rfl) (by simp) ?_
            refine AllReadyH.cons rfl (fun K hK => ?_) AllReadyH.nil
            have hs6 : Rd w7 w7.heap.size wcells A6 ((nfL (xs.take n)).drop j) := own_rd2 (c := c6) wcells_length (by rw [List.length_drop, HSn.out]; exact HR7.out)
            have hsr6 := src_of_rd _ Tryd.underlying88 wcells_length wcells_one (c := c6) hs6
            rw [List.length_drop, HSn.out] at hsr6
            refine if_wanted rfl (wp_append_any _ (.tmp 71) (.tmp 72) 88 88 rfl w4.heap.size 90 i0 (.agg #[.int .u8 0, .int .i16 0, .int .i16 0]) 3 6 Tryd.underlying88 HI.out HZ0.out HZ1.out HZ2.out rfl (by decide) _ (j + 1) (((nfL (xs.take n)).take j ++ [((x1, x2), x3)]).flatMap wcells) rfl HO7.out _ (n - j) (((nfL (xs.take n)).drop j).flatMap wcells) rfl hsr6 (by unfold maxLen; omega) (by omega) HB7.out.size ?_)
            intro v8 w8 hown8 hgr8 hbk8
            have HL8 : Hid (j + 1 + (n - j) = n + 1) := by show _ = _; omega
            have hown9 : w8.ownsRow w4.heap.size 90 3 v8 (nfL (xs.take (n + 1))).length ((nfL (xs.take (n + 1))).flatMap wcells) := by rw [HSt.out, List.flatMap_append, List.length_append, HL7.out, List.length_drop, HSn.out]; exact hown8
            have HB8 : Hid (Below w4.heap.size w4 w8) := HB7.out.grown hgr8 HB7.out.size (fun q e => (own_block HO7.out e).1)
            obtain ⟨-, h0⟩ | ⟨g8, cap8, rfl, hg8, hOX8⟩ := OX.of hown9
            · have := congrArg List.length (HSt.out.symm.trans h0)
              rw [List.length_append, HL7.out] at this
              simp at this
            have HN8 : Hid ((nfL (xs.take (n + 1))).length = n + 1) := by show _ = _; rw [HSt.out, List.length_append, HL7.out, List.length_drop, HSn.out]; omega
            rw [HN8.out]
            have HO8 := Lib.hid hOX8
            have HG8 := Lib.hid hg8
            clear hown8 hown9 hgr8 hbk8 hOX8 hg8 hs6 hsr6 HR7 HO7
            refine hK.out _ _ HB8.out (fun hHeld => ?_)
            clear hK K
            try simp only [Act.put, List.getElem_toArray, List.getElem_cons_zero, List.getElem_cons_succ, List.setIfInBounds_toArray, List.set_cons_zero, List.set_cons_succ]
            refine wpAnyH_ready (rs := [14]) (by kernel_rfl) (by simp) ?_
            refine AllReadyH.cons rfl (fun K hK => ?_) AllReadyH.nil
            refine if_wanted rfl ?_
            refine wp_assign0 (v := .slice (some ⟨g8, 0, none⟩) (n + 1) cap8) rfl rfl ?_
            refine hK.out _ _ hHeld (fun hHeld => ?_)
            clear hK K
            try simp only [Act.put, List.getElem_toArray, List.getElem_cons_zero, List.getElem_cons_succ, List.setIfInBounds_toArray, List.set_cons_zero, List.set_cons_succ]
            refine wpAnyH_done (by kernel_rfl) ?_ _
            try simp only [Act.put, List.getElem_toArray, List.getElem_cons_zero, List.getElem_cons_succ, List.setIfInBounds_toArray, List.set_cons_zero, List.set_cons_succ]
            have hb := hHeld
            clear hHeld
            go_wp2
            go_roundw
            case rel => exact ⟨n + 1, g8, cap8, HN1.out, by go_num, rfl, HO8.out, HG8.out, HB8.out⟩
            case measure => first | exact HMs.out | (have hms := HMs.out; simp [intOf]; omega)
        · obtain ⟨m, hm⟩ : ∃ m, m + 1 = j := ⟨j - 1, by omega⟩
          obtain ⟨⟨⟨y1, y2⟩, y3⟩, hy⟩ : ∃ y, (nfL (xs.take n))[m]? = some y := ⟨_, List.getElem?_eq_getElem (by rw [HSn.out]; omega)⟩
          have c3 : wb.cell? ⟨g, m * 3 + 2, none⟩ = some (.int .i16 y3) := HOb.out.cell wcells_length hy (f := 2) rfl
          have c4 : wb.cell? ⟨b2, o2 + n * 3 + 2, none⟩ = some (.int .i16 x3) := HRW.out 2 _ rfl
          have hpos : (0 : Int) < (j : Int) := by omega
          have hposN : 0 < j := by omega
          have hm0 : (0 : Int) ≤ (m : Int) := Int.natCast_nonneg _
          have hmn : (m : Int) < n := by omega
          have hw1 : IntKind.i64.wrap ((j : Int) - 1) = m := by rw [show (j : Int) - 1 = m from by omega]; exact IntWalk.i64_in _ ⟨by omega, by omega⟩
          have hw2 : wrap64 ((j : Int) - 1) = m := by rw [show (j : Int) - 1 = m from by omega]; exact IntWalk.wrap64_in _ ⟨by omega, by omega⟩
          have hjm : (j : Int) - 1 = m := by omega
          have HY := Lib.hid hy
          have HJ : Hid (m + 1 = j) := hm
          clear hy hz hm HRW
          by_cases hlt2 : y3 < x3
          · have HQ2 : Hid (∀ y ∈ (nfL (xs.take n)).drop m, decide (nfC ((x1, x2), x3) y < 0) = true) := fun y hy => by
              have e : (nfL (xs.take n)).drop m = ((y1, y2), y3) :: (nfL (xs.take n)).drop (m + 1) := by
                have hml : m < (nfL (xs.take n)).length := (List.getElem?_eq_some_iff.1 HY.out).1
                rw [List.drop_eq_getElem_cons hml]
                congr 1
                exact Option.some.inj ((List.getElem?_eq_getElem hml).symm.trans HY.out)
              rw [e] at hy
              rcases List.mem_cons.1 hy with rfl | hy
              · exact decide_eq_true (by unfold nfC; show y3 - x3 < 0; omega)
              · exact HQ.out y (by rw [← HJ.out]; exact hy)
            have HMj : Hid (m ≤ n) := by show _ ≤ _; omega
            have HMm : Hid (m < j) := by have := HJ.out; show _ < _; omega
            clear HSTOP
            go_wp2_with fail
            go_quiet (fail)
            go_wp2
            go_roundw
            case rel => exact ⟨m, HMj.out, by go_num, HQ2.out, below_drewN HB2.out _⟩
            case measure => first | exact HMm.out | (have := HMm.out; simp [intOf]; omega)
          · have HSt := Lib.hid (HSTOP.out (.inr (fun y hy => by
              have e : (nfL (xs.take n))[m]? = some y := by rw [show m = j - 1 from by have := HJ.out; omega]; exact hy
              obtain rfl := Option.some.inj (HY.out.symm.trans e)
              exact decide_eq_false (by unfold nfC; show ¬ y3 - x3 < 0; omega))))
            clear HSTOP HQ
            go_wp2_with fail
            go_quiet (fail)
            clear c3 c4 hw1 hw2 hjm
            by_cases hcj : j = cap
            · subst hcj
              obtain ⟨wq, hwq⟩ : ∃ q, wb.drewN nq = q := ⟨_, rfl⟩
              have HBq : Hid (Below w4.heap.size w4 wq) := by rw [← hwq]; exact below_drewN HBb.out nq
              have HOq : Hid (OX wq g 90 3 wcells (nfL (xs.take n)) j) := by rw [← hwq]; exact HOb.out.keep (below_drewN (Below.refl _ _) nq)
              rw [hwq]
              clear hwq HOb
              have HBr : Hid (Below wq.heap.size wq (wq.alloc (.cells #[] 90))) := (Below.refl _ _).alloc (Nat.le_refl _) _
              have hsr := src_of_rd _ Tryd.underlying88 wcells_length wcells_one (A := some ⟨g, 0, none⟩) (c := 0) (xs := (nfL (xs.take n)).drop j) (fun h => by rw [List.length_drop, HSn.out] at h; omega : Rd (wq.alloc (.cells #[] 90)) (wq.alloc (.cells #[] 90)).heap.size wcells (some ⟨g, 0, none⟩) ((nfL (xs.take n)).drop j))
              rw [List.length_drop, HSn.out] at hsr
              have HSr := Lib.hid hsr
              clear hsr
              go_wp2_with (at_builtin; refine wpList_append_any _ rfl (.tmp 55) (.tmp 58) 88 88 rfl wq.heap.size 90 i0 (.agg #[.int .u8 0, .int .i16 0, .int .i16 0]) 3 6 Tryd.underlying88 HI.out HZ0.out HZ1.out HZ2.out rfl (by decide) _ 0 [] rfl ?own _ (n - j) (((nfL (xs.take n)).drop j).flatMap wcells) rfl ?src ?c3 ?c4 ?c5 ?_)
              case own => exact empty_own wq _ 3
              case src => exact HSr.out
              case c3 => unfold maxLen; omega
              case c4 => omega
              case c5 => simp
              intro v' w6 hown hgr _
              have hown6 : w6.ownsRow wq.heap.size 90 3 v' (n - j) (((nfL (xs.take n)).drop j).flatMap wcells) := by simpa using hown
              have hown6' : w6.ownsRow wq.heap.size 90 3 v' ((nfL (xs.take n)).drop j).length (((nfL (xs.take n)).drop j).flatMap wcells) := by rw [List.length_drop, HSn.out]; exact hown6
              obtain ⟨A6, c6, rfl, -, -⟩ := own_rd wcells_length hown6'
              have hB6 : Below wq.heap.size wq w6 := HBr.out.grown hgr (by simp) (fun q e => by
                have e2 : wq.heap.size = q := by simpa [Value.ownBlock] using e
                omega)
              rw [List.length_drop, HSn.out] at hown6'
              have HR6 := Lib.hid hown6'
              have HO6 : Hid (OX w6.drew g 90 3 wcells (nfL (xs.take n)) j) := HOq.out.keep hB6.drew
              have HB6 : Hid (Below w4.heap.size w4 w6.drew) := (HBq.out.trans (hB6.mono HBq.out.size)).drew
              have HQS : Hid (g < wq.heap.size) := HOq.out.lt
              have HQ6 : Hid (wq.heap.size ≤ w6.heap.size) := hB6.size
              clear hown hgr hown6 hown6' hB6 HSr HOq HBr
              rw [List.length_drop, HSn.out]
              go_wp2_with fail
              refine wp_region_held_drew (S := fun w' => Below w4.heap.size w4 w') (by kernel_rfl) HB6.out (fun hHeld => ?_)
              refine wpAnyH_take (i := 0) (v := .slice (some ⟨g, 0, none⟩) n j) rfl (by kernel_rfl) (by kernel_rfl) (by kernel_rfl) (fun _ _ _ h => h) (Or.inl ⟨by rfl, fun w' h => by go_simp⟩) (by assumption) ?_
              try simp only [Act.put, List.getElem_toArray, List.getElem_cons_zero, List.getElem_cons_succ, List.setIfInBounds_toArray, List.set_cons_zero, List.set_cons_succ]
              refine wpAnyH_take (i := 1) (v := .int .i64 j) rfl (by kernel_rfl) (by kernel_rfl) (by kernel_rfl) (fun _ _ _ h => h) (Or.inl ⟨by rfl, fun w' h => by go_simp⟩) (by assumption) ?_
              try simp only [Act.put, List.getElem_toArray, List.getElem_cons_zero, List.getElem_cons_succ, List.setIfInBounds_toArray, List.set_cons_zero, List.set_cons_succ]
              refine wpAnyH_take (i := 2) (v := .slice (some ⟨g, 0, none⟩) j j) rfl (by kernel_rfl) (by kernel_rfl) (by kernel_rfl) (fun _ _ _ h => h) (Or.inl ⟨by rfl, fun w' h => by go_simp⟩) (by assumption) ?_
              try simp only [Act.put, List.getElem_toArray, List.getElem_cons_zero, List.getElem_cons_succ, List.setIfInBounds_toArray, List.set_cons_zero, List.set_cons_succ]
              refine wpAnyH_take (i := 3) (v := .slice (some ⟨b, o, none⟩) hs.length c) rfl (by kernel_rfl) (by kernel_rfl) (by kernel_rfl) (fun _ _ _ h => h) (Or.inl ⟨by rfl, fun w' h => by go_simp⟩) (by assumption) ?_
              try simp only [Act.put, List.getElem_toArray, List.getElem_cons_zero, List.getElem_cons_succ, List.setIfInBounds_toArray, List.set_cons_zero, List.set_cons_succ]
              refine wpAnyH_take (i := 4) (v := .int .i64 k) rfl (by kernel_rfl) (by kernel_rfl) (by kernel_rfl) (fun _ _ _ h => h) (Or.inl ⟨by rfl, fun w' h => by go_simp⟩) (by assumption) ?_
              try simp only [Act.put, List.getElem_toArray, List.getElem_cons_zero, List.getElem_cons_succ, List.setIfInBounds_toArray, List.set_cons_zero, List.set_cons_succ]
              refine wpAnyH_take (i := 5) (v := .pointer (some ⟨b, o + k, none⟩)) rfl (by kernel_rfl) (by kernel_rfl) (by kernel_rfl) (fun _ _ _ h => h) (Or.inl ⟨by rfl, fun w' h => by go_simp⟩) (by assumption) ?_
              try simp only [Act.put, List.getElem_toArray, List.getElem_cons_zero, List.getElem_cons_succ, List.setIfInBounds_toArray, List.set_cons_zero, List.set_cons_succ]
              refine wpAnyH_take (i := 6) (v := .slice (some ⟨b2, o2, none⟩) xs.length c') rfl (by kernel_rfl) (by kernel_rfl) (by kernel_rfl) (fun _ _ _ h => h) (Or.inl ⟨by rfl, fun w' h => by have e9 := (h.cell (p := ⟨b, o + k, none⟩) HSb.out).trans HC9.out; go_simp⟩) (by assumption) ?_
              try simp only [Act.put, List.getElem_toArray, List.getElem_cons_zero, List.getElem_cons_succ, List.setIfInBounds_toArray, List.set_cons_zero, List.set_cons_succ]
              refine wpAnyH_take (i := 7) (v := .int .i64 n) rfl (by kernel_rfl) (by kernel_rfl) (by kernel_rfl) (fun _ _ _ h => h) (Or.inl ⟨by rfl, fun w' h => by go_simp⟩) (by assumption) ?_
              try simp only [Act.put, List.getElem_toArray, List.getElem_cons_zero, List.getElem_cons_succ, List.setIfInBounds_toArray, List.set_cons_zero, List.set_cons_succ]
              refine wpAnyH_take (i := 8) (v := .pointer (some ⟨b2, o2 + n * 3, none⟩)) rfl (by kernel_rfl) (by kernel_rfl) (by kernel_rfl) (fun _ _ _ h => h) (Or.inl ⟨by rfl, fun w' h => by go_simp⟩) (by assumption) ?_
              try simp only [Act.put, List.getElem_toArray, List.getElem_cons_zero, List.getElem_cons_succ, List.setIfInBounds_toArray, List.set_cons_zero, List.set_cons_succ]
              refine' wpAnyH_take (i := 9) (v := _) rfl (by kernel_rfl) (by kernel_rfl) (by kernel_rfl) (fun _ _ _ h => h) (yieldsIf_load_mid (by rfl) 90 (.tmp 68) rfl b2 (o2 + n * 3) rfl (wcells ((x1, x2), x3)) _ (fun w' h => fun j v hv => (rangeAt_below HRow4.out h HBl4.out) j v hv) Tryd.underlying90 rfl Tryd.sizeTI) (by assumption) ?_
              try simp only [Act.put, List.getElem_toArray, List.getElem_cons_zero, List.getElem_cons_succ, List.setIfInBounds_toArray, List.set_cons_zero, List.set_cons_succ]
              refine wpAnyH_take (i := 12) (v := .slice A6 (n - j) c6) rfl (by kernel_rfl) (by kernel_rfl) (by kernel_rfl) (fun _ _ _ h => h) (Or.inl ⟨by rfl, fun w' h => by go_simp⟩) (by assumption) ?_
              try simp only [Act.put, List.getElem_toArray, List.getElem_cons_zero, List.getElem_cons_succ, List.setIfInBounds_toArray, List.set_cons_zero, List.set_cons_succ]
              obtain ⟨D0, hD0⟩ : ∃ D0, w6.drew = D0 := ⟨_, rfl⟩
              have HR6d : Hid (w6.drew.ownsRow wq.heap.size 90 3 (.slice A6 (n - j) c6) (n - j) (((nfL (xs.take n)).drop j).flatMap wcells)) := HR6.out
              have HQ6d : Hid (wq.heap.size ≤ w6.drew.heap.size) := HQ6.out
              rw [hD0] at hHeld HO6 HB6 HR6d HQ6d ⊢
              clear hD0 HR6 HQ6
              refine wpAnyH_ready (rs := [10]) (by kernel_rfl) (by simp) ?_
              refine AllReadyH.cons rfl (fun K hK => ?_) AllReadyH.nil
              refine if_wanted rfl ?_
              go_simp
              have HA9 : Hid (Below D0.heap.size D0 (D0.alloc (.cells #[.int .u8 x1, .int .i16 x2, .int .i16 x3] 90))) := (Below.refl _ _).alloc (Nat.le_refl _) _
              have HB9 : Hid (Below w4.heap.size w4 (D0.alloc (.cells #[.int .u8 x1, .int .i16 x2, .int .i16 x3] 90))) := HB6.out.trans (HA9.out.mono HB6.out.size)
              refine hK.out _ _ HB9.out (fun hHeld => ?_)
              clear hK K hHeld
              try simp only [Act.put, List.getElem_toArray, List.getElem_cons_zero, List.getElem_cons_succ, List.setIfInBounds_toArray, List.set_cons_zero, List.set_cons_succ]
              have HO9 : Hid ((D0.alloc (.cells #[.int .u8 x1, .int .i16 x2, .int .i16 x3] 90)).ownsRow w4.heap.size 90 3 (.slice (some ⟨g, 0, none⟩) j j) j (((nfL (xs.take n)).take j).flatMap wcells)) := by
                have h1 := ((HO6.out.cut wcells_length (j := j) (by rw [HSn.out]; exact hj)).keep HA9.out).own wcells_length HG.out
                rw [List.length_take, HSn.out, Nat.min_eq_left hj] at h1
                exact h1
              refine wpAnyH_ready (rs := [11]) (by kernel_rfl) (by simp) ?_
              refine AllReadyH.cons rfl (fun K hK => ?_) AllReadyH.nil
              refine if_wanted rfl (wp_append_any _ (.tmp 62) (.tmp 70) 88 88 rfl w4.heap.size 90 i0 (.agg #[.int .u8 0, .int .i16 0, .int .i16 0]) 3 6 Tryd.underlying88 HI.out HZ0.out HZ1.out HZ2.out rfl (by decide) (.slice (some ⟨g, 0, none⟩) j j) j (((nfL (xs.take n)).take j).flatMap wcells) rfl HO9.out _ 1 [.int .u8 x1, .int .i16 x2, .int .i16 x3] rfl (Src.ofSlice _ Tryd.underlying88 ⟨D0.heap.size, 0, none⟩ 1 1 _ rfl (three_cells0 D0 _ x1 x2 x3) (by intro u hu; simp only [List.mem_cons, List.not_mem_nil, or_false] at hu; rcases hu with rfl | rfl | rfl <;> rfl)) (by unfold maxLen; omega) (by omega) HB9.out.size ?_)
              intro v' w7 hown7 hgr7 hbk7
              have hown7' : w7.ownsRow w4.heap.size 90 3 v' ((nfL (xs.take n)).take j ++ [((x1, x2), x3)]).length (((nfL (xs.take n)).take j ++ [((x1, x2), x3)]).flatMap wcells) := by rw [List.length_append, List.flatMap_append, List.length_take, HSn.out, Nat.min_eq_left hj]; simpa [wcells] using hown7
              obtain ⟨A7, c7, rfl, -, -⟩ := own_rd wcells_length hown7'
              have HL7 : Hid (((nfL (xs.take n)).take j ++ [((x1, x2), x3)]).length = j + 1) := by show _ = _; rw [List.length_append, List.length_take, HSn.out, Nat.min_eq_left hj]; rfl
              rw [HL7.out] at hown7'
              have HO7 := Lib.hid hown7'
              rw [HL7.out] at hbk7 ⊢
              have HB7 : Hid (Below w4.heap.size w4 w7) := HB9.out.grown hgr7 HB9.out.size (fun q e => by
                have e2 : g = q := by simpa [Value.ownBlock] using e
                have := HG.out; omega)
              have HR7 : Hid (w7.ownsRow wq.heap.size 90 3 (.slice A6 (n - j) c6) (n - j) (((nfL (xs.take n)).drop j).flatMap wcells)) := gk_own (own_keep' HR6d.out HA9.out) hgr7 (fun q e => by
                have e2 : g = q := by simpa [Value.ownBlock] using e
                have := HQS.out; omega)
              have HQ7 : Hid (wq.heap.size ≤ w7.heap.size) := Nat.le_trans HQ6d.out (Nat.le_trans HA9.out.size hgr7.size)
              clear hown7 hown7' hgr7 hbk7 HR6d HQ6d HO9 HA9 HO6
              refine hK.out _ _ HB7.out (fun hHeld => ?_)
              clear hK K hHeld
              try simp only [Act.put, List.getElem_toArray, List.getElem_cons_zero, List.getElem_cons_succ, List.setIfInBounds_toArray, List.set_cons_zero, List.set_cons_succ]
              refine wpAnyH_ready (rs := [13]) (by kernel_rfl) (by simp) ?_
              refine AllReadyH.cons rfl (fun K hK => ?_) AllReadyH.nil
              have hs6 : Rd w7 w7.heap.size wcells A6 ((nfL (xs.take n)).drop j) := own_rd2 (c := c6) wcells_length (by rw [List.length_drop, HSn.out]; exact HR7.out)
              have hsr6 := src_of_rd _ Tryd.underlying88 wcells_length wcells_one (c := c6) hs6
              rw [List.length_drop, HSn.out] at hsr6
              refine if_wanted rfl (wp_append_any _ (.tmp 71) (.tmp 72) 88 88 rfl w4.heap.size 90 i0 (.agg #[.int .u8 0, .int .i16 0, .int .i16 0]) 3 6 Tryd.underlying88 HI.out HZ0.out HZ1.out HZ2.out rfl (by decide) _ (j + 1) (((nfL (xs.take n)).take j ++ [((x1, x2), x3)]).flatMap wcells) rfl HO7.out _ (n - j) (((nfL (xs.take n)).drop j).flatMap wcells) rfl hsr6 (by unfold maxLen; omega) (by omega) HB7.out.size ?_)
              intro v8 w8 hown8 hgr8 hbk8
              have HL8 : Hid (j + 1 + (n - j) = n + 1) := by show _ = _; omega
              have hown9 : w8.ownsRow w4.heap.size 90 3 v8 (nfL (xs.take (n + 1))).length ((nfL (xs.take (n + 1))).flatMap wcells) := by rw [HSt.out, List.flatMap_append, List.length_append, HL7.out, List.length_drop, HSn.out]; exact hown8
              have HB8 : Hid (Below w4.heap.size w4 w8) := HB7.out.grown hgr8 HB7.out.size (fun q e => (own_block HO7.out e).1)
              obtain ⟨-, h0⟩ | ⟨g8, cap8, rfl, hg8, hOX8⟩ := OX.of hown9
              · have := congrArg List.length (HSt.out.symm.trans h0)
                rw [List.length_append, HL7.out] at this
                simp at this
              have HN8 : Hid ((nfL (xs.take (n + 1))).length = n + 1) := by show _ = _; rw [HSt.out, List.length_append, HL7.out, List.length_drop, HSn.out]; omega
              rw [HN8.out]
              have HO8 := Lib.hid hOX8
              have HG8 := Lib.hid hg8
              clear hown8 hown9 hgr8 hbk8 hOX8 hg8 hs6 hsr6 HR7 HO7
              refine hK.out _ _ HB8.out (fun hHeld => ?_)
              clear hK K
              try simp only [Act.put, List.getElem_toArray, List.getElem_cons_zero, List.getElem_cons_succ, List.setIfInBounds_toArray, List.set_cons_zero, List.set_cons_succ]
              refine wpAnyH_ready (rs := [14]) (by kernel_rfl) (by simp) ?_
              refine AllReadyH.cons rfl (fun K hK => ?_) AllReadyH.nil
              refine if_wanted rfl ?_
              refine wp_assign0 (v := .slice (some ⟨g8, 0, none⟩) (n + 1) cap8) rfl rfl ?_
              refine hK.out _ _ hHeld (fun hHeld => ?_)
              clear hK K
              try simp only [Act.put, List.getElem_toArray, List.getElem_cons_zero, List.getElem_cons_succ, List.setIfInBounds_toArray, List.set_cons_zero, List.set_cons_succ]
              refine wpAnyH_done (by kernel_rfl) ?_ _
              try simp only [Act.put, List.getElem_toArray, List.getElem_cons_zero, List.getElem_cons_succ, List.setIfInBounds_toArray, List.set_cons_zero, List.set_cons_succ]
              have hb := hHeld
              clear hHeld
              go_wp2
              go_roundw
              case rel => exact ⟨n + 1, g8, cap8, HN1.out, by go_num, rfl, HO8.out, HG8.out, HB8.out⟩
              case measure => first | exact HMs.out | (have hms := HMs.out; simp [intOf]; omega)
            · have hcj2 : ¬ cap - j = 0 := by omega
              have hcj3 : ¬ cap ≤ j := by omega
              have hcj4 : j < cap := by omega
              obtain ⟨wq, hwq⟩ : ∃ q, wb.drewN nq = q := ⟨_, rfl⟩
              have HBq : Hid (Below w4.heap.size w4 wq) := by rw [← hwq]; exact below_drewN HBb.out nq
              have HOq : Hid (OX wq g 90 3 wcells (nfL (xs.take n)) cap) := by rw [← hwq]; exact HOb.out.keep (below_drewN (Below.refl _ _) nq)
              rw [hwq]
              clear hwq HOb
              have HBr : Hid (Below wq.heap.size wq (wq.alloc (.cells #[] 90))) := (Below.refl _ _).alloc (Nat.le_refl _) _
              have hsr := src_of_rd _ Tryd.underlying88 wcells_length wcells_one (c := cap - j) ((HOq.out.rdFrom wcells_length j).keep HBr.out)
              rw [List.length_drop, HSn.out] at hsr
              have HSr := Lib.hid hsr
              clear hsr
              go_wp2_with (at_builtin; refine wpList_append_any _ rfl (.tmp 55) (.tmp 58) 88 88 rfl wq.heap.size 90 i0 (.agg #[.int .u8 0, .int .i16 0, .int .i16 0]) 3 6 Tryd.underlying88 HI.out HZ0.out HZ1.out HZ2.out rfl (by decide) _ 0 [] rfl ?own _ (n - j) (((nfL (xs.take n)).drop j).flatMap wcells) rfl ?src ?c3 ?c4 ?c5 ?_)
              case own => exact empty_own wq _ 3
              case src => exact HSr.out
              case c3 => unfold maxLen; omega
              case c4 => omega
              case c5 => simp
              intro v' w6 hown hgr _
              have hown6 : w6.ownsRow wq.heap.size 90 3 v' (n - j) (((nfL (xs.take n)).drop j).flatMap wcells) := by simpa using hown
              have hown6' : w6.ownsRow wq.heap.size 90 3 v' ((nfL (xs.take n)).drop j).length (((nfL (xs.take n)).drop j).flatMap wcells) := by rw [List.length_drop, HSn.out]; exact hown6
              obtain ⟨A6, c6, rfl, -, -⟩ := own_rd wcells_length hown6'
              have hB6 : Below wq.heap.size wq w6 := HBr.out.grown hgr (by simp) (fun q e => by
                have e2 : wq.heap.size = q := by simpa [Value.ownBlock] using e
                omega)
              rw [List.length_drop, HSn.out] at hown6'
              have HR6 := Lib.hid hown6'
              have HO6 : Hid (OX w6.drew g 90 3 wcells (nfL (xs.take n)) cap) := HOq.out.keep hB6.drew
              have HB6 : Hid (Below w4.heap.size w4 w6.drew) := (HBq.out.trans (hB6.mono HBq.out.size)).drew
              have HQS : Hid (g < wq.heap.size) := HOq.out.lt
              have HQ6 : Hid (wq.heap.size ≤ w6.heap.size) := hB6.size
              clear hown hgr hown6 hown6' hB6 HSr HOq HBr
              rw [List.length_drop, HSn.out]
              go_wp2_with fail
              refine wp_region_held_drew (S := fun w' => Below w4.heap.size w4 w') (by kernel_rfl) HB6.out (fun hHeld => ?_)
              refine wpAnyH_take (i := 0) (v := .slice (some ⟨g, 0, none⟩) n cap) rfl (by kernel_rfl) (by kernel_rfl) (by kernel_rfl) (fun _ _ _ h => h) (Or.inl ⟨by rfl, fun w' h => by go_simp⟩) (by assumption) ?_
              try simp only [Act.put, List.getElem_toArray, List.getElem_cons_zero, List.getElem_cons_succ, List.setIfInBounds_toArray, List.set_cons_zero, List.set_cons_succ]
              refine wpAnyH_take (i := 1) (v := .int .i64 j) rfl (by kernel_rfl) (by kernel_rfl) (by kernel_rfl) (fun _ _ _ h => h) (Or.inl ⟨by rfl, fun w' h => by go_simp⟩) (by assumption) ?_
              try simp only [Act.put, List.getElem_toArray, List.getElem_cons_zero, List.getElem_cons_succ, List.setIfInBounds_toArray, List.set_cons_zero, List.set_cons_succ]
              refine wpAnyH_take (i := 2) (v := .slice (some ⟨g, 0, none⟩) j cap) rfl (by kernel_rfl) (by kernel_rfl) (by kernel_rfl) (fun _ _ _ h => h) (Or.inl ⟨by rfl, fun w' h => by go_simp⟩) (by assumption) ?_
              try simp only [Act.put, List.getElem_toArray, List.getElem_cons_zero, List.getElem_cons_succ, List.setIfInBounds_toArray, List.set_cons_zero, List.set_cons_succ]
              refine wpAnyH_take (i := 3) (v := .slice (some ⟨b, o, none⟩) hs.length c) rfl (by kernel_rfl) (by kernel_rfl) (by kernel_rfl) (fun _ _ _ h => h) (Or.inl ⟨by rfl, fun w' h => by go_simp⟩) (by assumption) ?_
              try simp only [Act.put, List.getElem_toArray, List.getElem_cons_zero, List.getElem_cons_succ, List.setIfInBounds_toArray, List.set_cons_zero, List.set_cons_succ]
              refine wpAnyH_take (i := 4) (v := .int .i64 k) rfl (by kernel_rfl) (by kernel_rfl) (by kernel_rfl) (fun _ _ _ h => h) (Or.inl ⟨by rfl, fun w' h => by go_simp⟩) (by assumption) ?_
              try simp only [Act.put, List.getElem_toArray, List.getElem_cons_zero, List.getElem_cons_succ, List.setIfInBounds_toArray, List.set_cons_zero, List.set_cons_succ]
              refine wpAnyH_take (i := 5) (v := .pointer (some ⟨b, o + k, none⟩)) rfl (by kernel_rfl) (by kernel_rfl) (by kernel_rfl) (fun _ _ _ h => h) (Or.inl ⟨by rfl, fun w' h => by go_simp⟩) (by assumption) ?_
              try simp only [Act.put, List.getElem_toArray, List.getElem_cons_zero, List.getElem_cons_succ, List.setIfInBounds_toArray, List.set_cons_zero, List.set_cons_succ]
              refine wpAnyH_take (i := 6) (v := .slice (some ⟨b2, o2, none⟩) xs.length c') rfl (by kernel_rfl) (by kernel_rfl) (by kernel_rfl) (fun _ _ _ h => h) (Or.inl ⟨by rfl, fun w' h => by have e9 := (h.cell (p := ⟨b, o + k, none⟩) HSb.out).trans HC9.out; go_simp⟩) (by assumption) ?_
              try simp only [Act.put, List.getElem_toArray, List.getElem_cons_zero, List.getElem_cons_succ, List.setIfInBounds_toArray, List.set_cons_zero, List.set_cons_succ]
              refine wpAnyH_take (i := 7) (v := .int .i64 n) rfl (by kernel_rfl) (by kernel_rfl) (by kernel_rfl) (fun _ _ _ h => h) (Or.inl ⟨by rfl, fun w' h => by go_simp⟩) (by assumption) ?_
              try simp only [Act.put, List.getElem_toArray, List.getElem_cons_zero, List.getElem_cons_succ, List.setIfInBounds_toArray, List.set_cons_zero, List.set_cons_succ]
              refine wpAnyH_take (i := 8) (v := .pointer (some ⟨b2, o2 + n * 3, none⟩)) rfl (by kernel_rfl) (by kernel_rfl) (by kernel_rfl) (fun _ _ _ h => h) (Or.inl ⟨by rfl, fun w' h => by go_simp⟩) (by assumption) ?_
              try simp only [Act.put, List.getElem_toArray, List.getElem_cons_zero, List.getElem_cons_succ, List.setIfInBounds_toArray, List.set_cons_zero, List.set_cons_succ]
              refine' wpAnyH_take (i := 9) (v := _) rfl (by kernel_rfl) (by kernel_rfl) (by kernel_rfl) (fun _ _ _ h => h) (yieldsIf_load_mid (by rfl) 90 (.tmp 68) rfl b2 (o2 + n * 3) rfl (wcells ((x1, x2), x3)) _ (fun w' h => fun j v hv => (rangeAt_below HRow4.out h HBl4.out) j v hv) Tryd.underlying90 rfl Tryd.sizeTI) (by assumption) ?_
              try simp only [Act.put, List.getElem_toArray, List.getElem_cons_zero, List.getElem_cons_succ, List.setIfInBounds_toArray, List.set_cons_zero, List.set_cons_succ]
              refine wpAnyH_take (i := 12) (v := .slice A6 (n - j) c6) rfl (by kernel_rfl) (by kernel_rfl) (by kernel_rfl) (fun _ _ _ h => h) (Or.inl ⟨by rfl, fun w' h => by go_simp⟩) (by assumption) ?_
              try simp only [Act.put, List.getElem_toArray, List.getElem_cons_zero, List.getElem_cons_succ, List.setIfInBounds_toArray, List.set_cons_zero, List.set_cons_succ]
              obtain ⟨D0, hD0⟩ : ∃ D0, w6.drew = D0 := ⟨_, rfl⟩
              have HR6d : Hid (w6.drew.ownsRow wq.heap.size 90 3 (.slice A6 (n - j) c6) (n - j) (((nfL (xs.take n)).drop j).flatMap wcells)) := HR6.out
              have HQ6d : Hid (wq.heap.size ≤ w6.drew.heap.size) := HQ6.out
              rw [hD0] at hHeld HO6 HB6 HR6d HQ6d ⊢
              clear hD0 HR6 HQ6
              refine wpAnyH_ready (rs := [10]) (by kernel_rfl) (by simp) ?_
              refine AllReadyH.cons rfl (fun K hK => ?_) AllReadyH.nil
              refine if_wanted rfl ?_
              go_simp
              have HA9 : Hid (Below D0.heap.size D0 (D0.alloc (.cells #[.int .u8 x1, .int .i16 x2, .int .i16 x3] 90))) := (Below.refl _ _).alloc (Nat.le_refl _) _
              have HB9 : Hid (Below w4.heap.size w4 (D0.alloc (.cells #[.int .u8 x1, .int .i16 x2, .int .i16 x3] 90))) := HB6.out.trans (HA9.out.mono HB6.out.size)
              refine hK.out _ _ HB9.out (fun hHeld => ?_)
              clear hK K hHeld
              try simp only [Act.put, List.getElem_toArray, List.getElem_cons_zero, List.getElem_cons_succ, List.setIfInBounds_toArray, List.set_cons_zero, List.set_cons_succ]
              have HO9 : Hid ((D0.alloc (.cells #[.int .u8 x1, .int .i16 x2, .int .i16 x3] 90)).ownsRow w4.heap.size 90 3 (.slice (some ⟨g, 0, none⟩) j cap) j (((nfL (xs.take n)).take j).flatMap wcells)) := by
                have h1 := ((HO6.out.cut wcells_length (j := j) (by rw [HSn.out]; exact hj)).keep HA9.out).own wcells_length HG.out
                rw [List.length_take, HSn.out, Nat.min_eq_left hj] at h1
                exact h1
              refine wpAnyH_ready (rs := [11]) (by kernel_rfl) (by simp) ?_
              refine AllReadyH.cons rfl (fun K hK => ?_) AllReadyH.nil
              refine if_wanted rfl (wp_append_any _ (.tmp 62) (.tmp 70) 88 88 rfl w4.heap.size 90 i0 (.agg #[.int .u8 0, .int .i16 0, .int .i16 0]) 3 6 Tryd.underlying88 HI.out HZ0.out HZ1.out HZ2.out rfl (by decide) (.slice (some ⟨g, 0, none⟩) j cap) j (((nfL (xs.take n)).take j).flatMap wcells) rfl HO9.out _ 1 [.int .u8 x1, .int .i16 x2, .int .i16 x3] rfl (Src.ofSlice _ Tryd.underlying88 ⟨D0.heap.size, 0, none⟩ 1 1 _ rfl (three_cells0 D0 _ x1 x2 x3) (by intro u hu; simp only [List.mem_cons, List.not_mem_nil, or_false] at hu; rcases hu with rfl | rfl | rfl <;> rfl)) (by unfold maxLen; omega) (by omega) HB9.out.size ?_)
              intro v' w7 hown7 hgr7 hbk7
              have hown7' : w7.ownsRow w4.heap.size 90 3 v' ((nfL (xs.take n)).take j ++ [((x1, x2), x3)]).length (((nfL (xs.take n)).take j ++ [((x1, x2), x3)]).flatMap wcells) := by rw [List.length_append, List.flatMap_append, List.length_take, HSn.out, Nat.min_eq_left hj]; simpa [wcells] using hown7
              obtain ⟨A7, c7, rfl, -, -⟩ := own_rd wcells_length hown7'
              have HL7 : Hid (((nfL (xs.take n)).take j ++ [((x1, x2), x3)]).length = j + 1) := by show _ = _; rw [List.length_append, List.length_take, HSn.out, Nat.min_eq_left hj]; rfl
              rw [HL7.out] at hown7'
              have HO7 := Lib.hid hown7'
              rw [HL7.out] at hbk7 ⊢
              have HB7 : Hid (Below w4.heap.size w4 w7) := HB9.out.grown hgr7 HB9.out.size (fun q e => by
                have e2 : g = q := by simpa [Value.ownBlock] using e
                have := HG.out; omega)
              have HR7 : Hid (w7.ownsRow wq.heap.size 90 3 (.slice A6 (n - j) c6) (n - j) (((nfL (xs.take n)).drop j).flatMap wcells)) := gk_own (own_keep' HR6d.out HA9.out) hgr7 (fun q e => by
                have e2 : g = q := by simpa [Value.ownBlock] using e
                have := HQS.out; omega)
              have HQ7 : Hid (wq.heap.size ≤ w7.heap.size) := Nat.le_trans HQ6d.out (Nat.le_trans HA9.out.size hgr7.size)
              clear hown7 hown7' hgr7 hbk7 HR6d HQ6d HO9 HA9 HO6
              refine hK.out _ _ HB7.out (fun hHeld => ?_)
              clear hK K hHeld
              try simp only [Act.put, List.getElem_toArray, List.getElem_cons_zero, List.getElem_cons_succ, List.setIfInBounds_toArray, List.set_cons_zero, List.set_cons_succ]
              refine wpAnyH_ready (rs := [13]) (by kernel_rfl) (by simp) ?_
              refine AllReadyH.cons rfl (fun K hK => ?_) AllReadyH.nil
              have hs6 : Rd w7 w7.heap.size wcells A6 ((nfL (xs.take n)).drop j) := own_rd2 (c := c6) wcells_length (by rw [List.length_drop, HSn.out]; exact HR7.out)
              have hsr6 := src_of_rd _ Tryd.underlying88 wcells_length wcells_one (c := c6) hs6
              rw [List.length_drop, HSn.out] at hsr6
              refine if_wanted rfl (wp_append_any _ (.tmp 71) (.tmp 72) 88 88 rfl w4.heap.size 90 i0 (.agg #[.int .u8 0, .int .i16 0, .int .i16 0]) 3 6 Tryd.underlying88 HI.out HZ0.out HZ1.out HZ2.out rfl (by decide) _ (j + 1) (((nfL (xs.take n)).take j ++ [((x1, x2), x3)]).flatMap wcells) rfl HO7.out _ (n - j) (((nfL (xs.take n)).drop j).flatMap wcells) rfl hsr6 (by unfold maxLen; omega) (by omega) HB7.out.size ?_)
              intro v8 w8 hown8 hgr8 hbk8
              have HL8 : Hid (j + 1 + (n - j) = n + 1) := by show _ = _; omega
              have hown9 : w8.ownsRow w4.heap.size 90 3 v8 (nfL (xs.take (n + 1))).length ((nfL (xs.take (n + 1))).flatMap wcells) := by rw [HSt.out, List.flatMap_append, List.length_append, HL7.out, List.length_drop, HSn.out]; exact hown8
              have HB8 : Hid (Below w4.heap.size w4 w8) := HB7.out.grown hgr8 HB7.out.size (fun q e => (own_block HO7.out e).1)
              obtain ⟨-, h0⟩ | ⟨g8, cap8, rfl, hg8, hOX8⟩ := OX.of hown9
              · have := congrArg List.length (HSt.out.symm.trans h0)
                rw [List.length_append, HL7.out] at this
                simp at this
              have HN8 : Hid ((nfL (xs.take (n + 1))).length = n + 1) := by show _ = _; rw [HSt.out, List.length_append, HL7.out, List.length_drop, HSn.out]; omega
              rw [HN8.out]
              have HO8 := Lib.hid hOX8
              have HG8 := Lib.hid hg8
              clear hown8 hown9 hgr8 hbk8 hOX8 hg8 hs6 hsr6 HR7 HO7
              refine hK.out _ _ HB8.out (fun hHeld => ?_)
              clear hK K
              try simp only [Act.put, List.getElem_toArray, List.getElem_cons_zero, List.getElem_cons_succ, List.setIfInBounds_toArray, List.set_cons_zero, List.set_cons_succ]
              refine wpAnyH_ready (rs := [14]) (by kernel_rfl) (by simp) ?_
              refine AllReadyH.cons rfl (fun K hK => ?_) AllReadyH.nil
              refine if_wanted rfl ?_
              refine wp_assign0 (v := .slice (some ⟨g8, 0, none⟩) (n + 1) cap8) rfl rfl ?_
              refine hK.out _ _ hHeld (fun hHeld => ?_)
              clear hK K
              try simp only [Act.put, List.getElem_toArray, List.getElem_cons_zero, List.getElem_cons_succ, List.setIfInBounds_toArray, List.set_cons_zero, List.set_cons_succ]
              refine wpAnyH_done (by kernel_rfl) ?_ _
              try simp only [Act.put, List.getElem_toArray, List.getElem_cons_zero, List.getElem_cons_succ, List.setIfInBounds_toArray, List.set_cons_zero, List.set_cons_succ]
              have hb := hHeld
              clear hHeld
              go_wp2
              go_roundw
              case rel => exact ⟨n + 1, g8, cap8, HN1.out, by go_num, rfl, HO8.out, HG8.out, HB8.out⟩
              case measure => first | exact HMs.out | (have hms := HMs.out; simp [intOf]; omega)
    · obtain rfl : n = xs.length := by omega
      have HAll : Hid (nfL (xs.take xs.length) = nfL xs) := by show _ = _; rw [List.take_length]
      have hN9 := HN.out.keep HB.out
      have hcell : ∃ v, wa.cell? ⟨g0, k, none⟩ = some v := by
        obtain ⟨⟨a, m, c0⟩, hhk⟩ : ∃ h, hs[k]? = some h := ⟨_, List.getElem?_eq_getElem HHK.out⟩
        obtain ⟨b0, o0, e0, hb0, hrow⟩ := (own_rd2 hcells_length hN9.1).at_ hcells_length hhk
        obtain ⟨rfl, rfl⟩ : g0 = b0 ∧ 0 = o0 := by simpa using e0
        have hc1 := rowH hrow
        rw [Nat.zero_add] at hc1
        exact ⟨_, hc1⟩
      obtain ⟨v9, hc9⟩ := hcell
      have hf9 : wa.frozen? ⟨g0, k, none⟩ = false := by
        rcases hN9.1.2 with ⟨e, -⟩ | ⟨g', cap', cur, hv, hb, hg', -⟩
        · cases e
        · obtain rfl : g0 = g' := by simpa using (Value.slice.inj hv).1
          simp [World.frozen?, hg']
      have hO9 := HO.out
      rw [HAll.out] at hO9
      have hown9 := hO9.own wcells_length HG.out
      have HN9 := Lib.hid (HN.out.putN (ys := nfL xs) HHK.out HB.out HB4.out.size hown9)
      rw [nfL_len] at HN9
      have HB9 : Hid (Below w.heap.size w (wa.setCell ⟨g0, k, none⟩ (.slice (some ⟨g, 0, none⟩) xs.length cap))) := (HB4.out.trans (HB.out.mono HB4.out.size)).setCell (p := ⟨g0, k, none⟩) (Nat.le_trans (Nat.le_refl _) (own_block HN.out.1 rfl).1) _
      clear hN9 hO9 hown9
      go_wp2
      go_ret2
      exact ⟨some ⟨g0, 0, none⟩, c1, by (rw [E1.out, E2.out, List.length_set, ← HLen.out]; first | done | rfl), by rw [E2.out]; exact HN9.out.rd wcells_length, HB9.out⟩
end Go.Proofs.YtlfamfdgphhbcaaDoor
