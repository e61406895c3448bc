/-
  The contracts of TakeFront, of the model and of the program. Condition: the rack reads as lists of things that are stored, whose numbers fit their kinds, not more than 1048576; the sentinel errors lie as the row lists them (the program's).
-/
import Derived.Test.YtceinefoljcgkaaDoorTf0
import Derived.Test.YtceinefoljcgkaaDoorSt2
namespace Go.Proofs.YtceinefoljcgkaaDoor
open Go.ChangeShapes Go.WideShapes Go.ChangeAt Go.RowKit Go.Deep

theorem bal {w v : World} (h : Below w.heap.size w v) (o : Obj) : Below w.heap.size w (v.alloc o) := h.alloc h.size o
/-- The code of TakeFront; the rack and what is taken. -/
def tfC (xss : List (List Wnt)) (l : Int) : Int := if rkOk xss = true then (if inB l xss.length = true then (if (lnAt xss l).length = 0 then 6 else 0) else 2) else 1
def tfL (xss : List (List Wnt)) (l : Int) : List (List Wnt) := if tfC xss l = 0 then xss.set l.toNat ((lnAt xss l).take ((lnAt xss l).length - 1)) else []
def tfX (xss : List (List Wnt)) (l : Int) : Wnt := if tfC xss l = 0 then (lnAt xss l).getD ((lnAt xss l).length - 1) ((0, 0), 0) else ((0, 0), 0)
theorem tf_no {xss : List (List Wnt)} {l : Int} (h : tfC xss l ≠ 0) : tfL xss l = [] ∧ tfX xss l = ((0, 0), 0) := ⟨by rw [tfL, if_neg h], by rw [tfX, if_neg h]⟩
theorem tf_yes {xss : List (List Wnt)} {k j : Nat} {x : Wnt} (h : tfC xss k = 0) (hj : j + 1 = (lnAt xss k).length) (hx : (lnAt xss k)[j]? = some x) : tfL xss k = xss.set k ((lnAt xss k).take j) ∧ tfX xss k = x := by
  have e : (lnAt xss k).length - 1 = j := by omega
  refine ⟨by rw [tfL, if_pos h, e]; rfl, by rw [tfX, if_pos h, e]; simp [hx]⟩

set_option maxRecDepth 100000 in
set_option maxHeartbeats 4000000 in
theorem specTakeFront_any (xss : List (List Wnt)) (hwf : ∀ xs ∈ xss, ∀ x ∈ xs, wfW x) (A : Option Addr) (c : Nat) (l : Int) (w : World) (hl : xss.length ≤ 1048576) (hx : ∀ xs ∈ xss, xs.length ≤ 1048576) (hr : RdN w w.heap.size wcells A xss) :
    Calls Tryd.prog 26 #[.slice A xss.length c, .int .i64 l] w fun e w' => ∃ A' c', e = .returned (.tuple #[.slice A' (tfL xss l).length c', .agg (wcells (tfX xss l)).toArray, .int .i64 (tfC xss l)]) ∧ RdN w' w'.heap.size wcells A' (tfL xss l) ∧ Below w.heap.size w w' := by
  have HR := Lib.hid hr
  have HW := Lib.hid hwf
  have HX := Lib.hid hx
  clear hr hwf hx
  have h1 : Blk (w.alloc (.cells #[.int .u8 0, .int .i16 0, .int .i16 0] 45)) w.heap.size 45 #[.int .u8 0, .int .i16 0, .int .i16 0] := Blk.new w _ _
  have h2 : Below w.heap.size w (w.alloc (.cells #[.int .u8 0, .int .i16 0, .int .i16 0] 45)) := (Below.refl _ w).alloc (Nat.le_refl _) _
  obtain ⟨W0, hW0⟩ : ∃ W0, w.alloc (.cells #[.int .u8 0, .int .i16 0, .int .i16 0] 45) = W0 := ⟨_, rfl⟩
  rw [hW0] at h1 h2
  have H1 := Lib.hid h1
  have H2 := Lib.hid h2
  clear h1 h2
  go_enter Tryd.func26, Tryd.ntmps26
  go_wp2_with fail
  clear hW0
  refine (l04Ok_any xss HW.out A c _ hl HX.out (HR.out.keep H2.out)).mono ?_
  rintro e w1 ⟨rfl, hb⟩
  have J1 : Hid (Blk w1 w.heap.size 45 #[.int .u8 0, .int .i16 0, .int .i16 0]) := H1.out.keep hb
  have J2 : Hid (Below w.heap.size w w1) := H2.out.trans (hb.mono H2.out.size)
  have HZl := J1.out.lt
  clear hb H1 H2
  cases hv : rkOk xss
  · have hc : tfC xss l = 1 := by simp [tfC, hv]
    have E1 := Lib.hid hc
    have E2 := Lib.hid (tf_no (xss := xss) (l := l) (by omega))
    clear hc
    have d0 : w1.cell? ⟨w.heap.size, 0, none⟩ = some (.int .u8 0) := J1.out.cell 0
    have d1 : w1.cell? ⟨w.heap.size, 1, none⟩ = some (.int .i16 0) := J1.out.cell 1
    have d2 : w1.cell? ⟨w.heap.size, 2, none⟩ = some (.int .i16 0) := J1.out.cell 2
    have f0 : w1.frozen? ⟨w.heap.size, 0, none⟩ = false := J1.out.frozen 0
    have f1 : w1.frozen? ⟨w.heap.size, 1, none⟩ = false := J1.out.frozen 1
    have f2 : w1.frozen? ⟨w.heap.size, 2, none⟩ = false := J1.out.frozen 2
    go_wp2
    refine bodyPost_ret (v := .tuple #[.slice (some ⟨w1.heap.size, 0, none⟩) 0 0, .agg #[.int .u8 0, .int .i16 0, .int .i16 0], .int .i64 1]) (by simp [results, Tryd.results26, go_sem, *]) rfl ?_
    exact ⟨_, _, by (rw [E1.out, E2.out.1, E2.out.2]; rfl), by rw [E2.out.1]; exact rdN_nil _ _ _ _, bal ((((J2.out).setCell (p := ⟨w.heap.size, 0, none⟩) (Nat.le_refl _) _).setCell (p := ⟨w.heap.size, 1, none⟩) (Nat.le_refl _) _).setCell (p := ⟨w.heap.size, 2, none⟩) (Nat.le_refl _) _) _⟩
  have HV := Lib.hid hv
  clear hv
  go_wp2_with fail
  refine (l04Lane_any xss.length c A l _ hl).mono ?_
  rintro e w3 ⟨rfl, rfl⟩
  cases hi : inB l xss.length
  · have hc : tfC xss l = 2 := by simp [tfC, HV.out, hi]
    have E1 := Lib.hid hc
    have E2 := Lib.hid (tf_no (xss := xss) (l := l) (by omega))
    clear hc
    have d0 : w1.cell? ⟨w.heap.size, 0, none⟩ = some (.int .u8 0) := J1.out.cell 0
    have d1 : w1.cell? ⟨w.heap.size, 1, none⟩ = some (.int .i16 0) := J1.out.cell 1
    have d2 : w1.cell? ⟨w.heap.size, 2, none⟩ = some (.int .i16 0) := J1.out.cell 2
    have f0 : w1.frozen? ⟨w.heap.size, 0, none⟩ = false := J1.out.frozen 0
    have f1 : w1.frozen? ⟨w.heap.size, 1, none⟩ = false := J1.out.frozen 1
    have f2 : w1.frozen? ⟨w.heap.size, 2, none⟩ = false := J1.out.frozen 2
    go_wp2
    refine bodyPost_ret (v := .tuple #[.slice (some ⟨w1.heap.size, 0, none⟩) 0 0, .agg #[.int .u8 0, .int .i16 0, .int .i16 0], .int .i64 2]) (by simp [results, Tryd.results26, go_sem, *]) rfl ?_
    exact ⟨_, _, by (rw [E1.out, E2.out.1, E2.out.2]; rfl), by rw [E2.out.1]; exact rdN_nil _ _ _ _, bal ((((J2.out).setCell (p := ⟨w.heap.size, 0, none⟩) (Nat.le_refl _) _).setCell (p := ⟨w.heap.size, 1, none⟩) (Nat.le_refl _) _).setCell (p := ⟨w.heap.size, 2, none⟩) (Nat.le_refl _) _) _⟩
  obtain ⟨k, rfl, hk⟩ := inB_nat hi
  have HI1 := Lib.hid hi
  clear hi
  obtain ⟨xs, hxs⟩ : ∃ xs, lnAt xss k = xs := ⟨_, rfl⟩
  have hxk := lnAt_nat hk
  rw [hxs] at hxk
  have HXs := Lib.hid hxs
  have HXk := Lib.hid hxk
  obtain ⟨b, o, a0, c', rfl, hb, hc9, -⟩ := (HR.out.keep J2.out).at_ hxk
  have hxl := HX.out xs (List.mem_of_getElem? hxk)
  have hk0 : (0 : Int) ≤ (k : Int) := Int.natCast_nonneg _
  have hk8 : (k : Int) < xss.length := by omega
  clear hxk hxs
  by_cases h6 : xs.length = 0
  · have hc : tfC xss k = 6 := by simp [tfC, HV.out, HI1.out, HXs.out, h6]
    have E1 := Lib.hid hc
    have h6' : (xs.length : Int) = 0 := by omega
    have E2 := Lib.hid (tf_no (xss := xss) (l := (k : Int)) (by omega))
    clear hc h6
    have d0 : w1.cell? ⟨w.heap.size, 0, none⟩ = some (.int .u8 0) := J1.out.cell 0
    have d1 : w1.cell? ⟨w.heap.size, 1, none⟩ = some (.int .i16 0) := J1.out.cell 1
    have d2 : w1.cell? ⟨w.heap.size, 2, none⟩ = some (.int .i16 0) := J1.out.cell 2
    have f0 : w1.frozen? ⟨w.heap.size, 0, none⟩ = false := J1.out.frozen 0
    have f1 : w1.frozen? ⟨w.heap.size, 1, none⟩ = false := J1.out.frozen 1
    have f2 : w1.frozen? ⟨w.heap.size, 2, none⟩ = false := J1.out.frozen 2
    go_wp2
    refine bodyPost_ret (v := .tuple #[.slice (some ⟨w1.heap.size, 0, none⟩) 0 0, .agg #[.int .u8 0, .int .i16 0, .int .i16 0], .int .i64 6]) (by simp [results, Tryd.results26, go_sem, *]) rfl ?_
    exact ⟨_, _, by (rw [E1.out, E2.out.1, E2.out.2]; rfl), by rw [E2.out.1]; exact rdN_nil _ _ _ _, bal ((((J2.out).setCell (p := ⟨w.heap.size, 0, none⟩) (Nat.le_refl _) _).setCell (p := ⟨w.heap.size, 1, none⟩) (Nat.le_refl _) _).setCell (p := ⟨w.heap.size, 2, none⟩) (Nat.le_refl _) _) _⟩
  obtain ⟨j, hj⟩ : ∃ j, j + 1 = xs.length := ⟨xs.length - 1, by omega⟩
  obtain ⟨⟨⟨k1, y1⟩, n1⟩, hxj⟩ : ∃ x, xs[j]? = some x := ⟨_, List.getElem?_eq_getElem (by omega)⟩
  have h6' : ((xs.length : Int) == 0) = false := by simp only [beq_eq_false_iff_ne, ne_eq]; omega
  have hc : tfC xss k = 0 := by simp [tfC, HV.out, HI1.out, HXs.out, h6]
  have E1 := Lib.hid hc
  have E2 : Hid (tfL xss k = xss.set k (xs.take j) ∧ tfX xss k = ((k1, y1), n1)) := by
    show tfL xss k = xss.set k (xs.take j) ∧ tfX xss k = ((k1, y1), n1)
    have := tf_yes hc (j := j) (x := ((k1, y1), n1)) (by rw [HXs.out]; exact hj) (by rw [HXs.out]; exact hxj)
    rw [HXs.out] at this; exact this
  clear hc h6
  go_wp2_with fail
  clear hc9 hb
  refine (l04Own_any xss _ c _ hl HX.out (HR.out.keep J2.out)).mono ?_
  rintro e w4 ⟨A1, c1, hs, rfl, hN, hb4⟩
  have HC4 : Hid (Blk w4 w.heap.size 45 #[.int .u8 0, .int .i16 0, .int .i16 0]) := J1.out.keep hb4
  have HB4 : Hid (Below w.heap.size w w4) := J2.out.trans (hb4.mono J2.out.size)
  have HSz : w1.heap.size ≤ w4.heap.size := hb4.size
  have HSy : w.heap.size ≤ w1.heap.size := J2.out.size
  have hlen : hs.length = xss.length := hN.2.1
  obtain ⟨⟨a, m, c0⟩, hhk⟩ : ∃ h, hs[k]? = some h := ⟨_, List.getElem?_eq_getElem (by omega)⟩
  obtain ⟨em, how⟩ := hN.2.2.1 k _ xs hhk HXk.out
  dsimp only at em how
  subst em
  obtain ⟨b0, o0, e0, hb0, hrow⟩ := (own_rd2 hcells_length hN.1).at_ hcells_length hhk
  obtain ⟨g0, rfl⟩ : ∃ g, A1 = some ⟨g, 0, none⟩ := by
    rcases hN.1.2 with ⟨e, -⟩ | ⟨g, cap, cur, hv, -⟩
    · rw [e0] at e; cases e
    · exact ⟨g, (Value.slice.inj hv).1⟩
  obtain ⟨rfl, rfl⟩ : g0 = b0 ∧ 0 = o0 := by simpa using e0
  have hc1 := rowH hrow
  rw [Nat.zero_add] at hc1
  dsimp only at hc1
  obtain ⟨g1, o1, rfl, hg1, hrow1⟩ := (own_rd2 wcells_length how).at_ wcells_length hxj
  obtain ⟨p1, p2, p3⟩ := rowW hrow1
  have hcap : (xs.length : Int) ≤ c0 := by
    rcases how.2 with ⟨e, -⟩ | ⟨g, cap, cur, hv, -, -, hn, -⟩
    · cases e
    · have := (Value.slice.inj hv).2.2; omega
  have hj0 : (0 : Int) ≤ (j : Int) := Int.natCast_nonneg _
  have hjl : (j : Int) < xs.length := by omega
  have hjc : (j : Int) ≤ c0 := by omega
  have hw1 : IntKind.i64.wrap ((xs.length : Int) - 1) = j := by rw [show (xs.length : Int) - 1 = j from by omega]; exact IntWalk.i64_in _ ⟨by omega, by omega⟩
  have hw2 : wrap64 ((xs.length : Int) - 1) = j := by rw [show (xs.length : Int) - 1 = j from by omega]; exact IntWalk.wrap64_in _ ⟨by omega, by omega⟩
  have hg0b : w1.heap.size ≤ g0 ∧ g0 < w4.heap.size := own_block hN.1 rfl
  have hf : w4.frozen? ⟨g0, k, none⟩ = false := by
    rcases hN.1.2 with ⟨e, -⟩ | ⟨g, cap, cur, hv, hb, hg', -⟩
    · cases e
    · have e0 := (Value.slice.inj hv).1
      simp only [Option.some.injEq, Addr.mk.injEq, and_true] at e0
      subst e0
      exact Blk.frozen (show Blk w4 g0 _ cur from hg') k
  have hlj : (xs.take j).length = j := by rw [List.length_take]; omega
  have hN2 := OwnN.put hN hhk HXk.out (Below.refl _ w4) (own_shrink wcells_length how (m := j) (by omega)) (gk_refl w4 _) (.inl rfl)
  rw [hlj] at hN2
  have hB2 : Below w.heap.size w (w4.setCell ⟨g0, k, none⟩ (.slice (some ⟨g1, o1, none⟩) j c0)) := HB4.out.setCell (p := ⟨g0, k, none⟩) (by show w.heap.size ≤ g0; omega) _
  have hC2 : Blk (w4.setCell ⟨g0, k, none⟩ (.slice (some ⟨g1, o1, none⟩) j c0)) w.heap.size 45 #[.int .u8 0, .int .i16 0, .int .i16 0] := HC4.out.far (p := ⟨g0, k, none⟩) (by show w.heap.size ≠ g0; omega) _
  have hne0 : g0 ≠ w4.heap.size := by omega
  have HN2 := Lib.hid hN2
  have HB2 := Lib.hid hB2
  have HC2 := Lib.hid hC2
  have HLen := Lib.hid hlen
  rw [← hlen] at hk8
  rw [← hlen]
  clear hN hhk hb4 how hrow e0 J1 J2 HC4 HB4 hN2 hB2 hC2 hlen hrow1
  go_wp2_with fail
  clear p1 p2 p3 hc1 hf
  have hW : (w4.setCell ⟨g0, k, none⟩ (.slice (some ⟨g1, o1, none⟩) j c0)).heap.size = w4.heap.size := by simp
  obtain ⟨W5, hW5⟩ : ∃ W5, w4.setCell ⟨g0, k, none⟩ (.slice (some ⟨g1, o1, none⟩) j c0) = W5 := ⟨_, rfl⟩
  rw [hW5] at HN2 HB2 HC2 hW ⊢
  clear hW5
  have hsz5 : w.heap.size < W5.heap.size := HC2.out.lt
  have h5 : Below W5.heap.size W5 (W5.alloc (.cells #[.int .u8 k1, .int .i16 y1, .int .i16 n1] 45)) := (Below.refl _ W5).alloc (Nat.le_refl _) _
  have h6 : Blk (W5.alloc (.cells #[.int .u8 k1, .int .i16 y1, .int .i16 n1] 45)) W5.heap.size 45 #[.int .u8 k1, .int .i16 y1, .int .i16 n1] := Blk.new W5 _ _
  have HN3 := Lib.hid (HN2.out.keep h5)
  have HB3 : Hid (Below w.heap.size w (W5.alloc (.cells #[.int .u8 k1, .int .i16 y1, .int .i16 n1] 45))) := HB2.out.trans (h5.mono HB2.out.size)
  have h7 := HC2.out.keep h5
  clear HN2 HB2 h5 HC2
  obtain ⟨W6, hW6⟩ : ∃ W6, W5.alloc (.cells #[.int .u8 k1, .int .i16 y1, .int .i16 n1] 45) = W6 := ⟨_, rfl⟩
  rw [hW6] at h6 h7 HN3 HB3 ⊢
  clear hW6
  rw [hW] at h6 hsz5
  clear hW
  have e0 : W6.cell? ⟨w4.heap.size, 0, none⟩ = some (.int .u8 k1) := h6.cell 0
  have e1 : W6.cell? ⟨w4.heap.size, 1, none⟩ = some (.int .i16 y1) := h6.cell 1
  have e2 : W6.cell? ⟨w4.heap.size, 2, none⟩ = some (.int .i16 n1) := h6.cell 2
  have d0 : W6.cell? ⟨w.heap.size, 0, none⟩ = some (.int .u8 0) := h7.cell 0
  have d1 : W6.cell? ⟨w.heap.size, 1, none⟩ = some (.int .i16 0) := h7.cell 1
  have d2 : W6.cell? ⟨w.heap.size, 2, none⟩ = some (.int .i16 0) := h7.cell 2
  have f0 : W6.frozen? ⟨w.heap.size, 0, none⟩ = false := h7.frozen 0
  have f1 : W6.frozen? ⟨w.heap.size, 1, none⟩ = false := h7.frozen 1
  have f2 : W6.frozen? ⟨w.heap.size, 2, none⟩ = false := h7.frozen 2
  have hd1 : w.heap.size ≠ w4.heap.size := by omega
  have hd2 : w4.heap.size ≠ w.heap.size := by omega
  clear h6 h7
  have hlt : ∀ k, k = w.heap.size → k < w1.heap.size := fun k e => by omega
  have HN4 := Lib.hid ((((HN3.out.only (only_set W6 w.heap.size 0 (.int .u8 k1)) hlt).only (only_set _ w.heap.size 1 (.int .i16 y1)) hlt).only (only_set _ w.heap.size 2 (.int .i16 n1)) hlt).keep ((Below.refl _ _).drew))
  have HB4 : Hid (Below w.heap.size w (((W6.setCell ⟨w.heap.size, 0, none⟩ (.int .u8 k1)).setCell ⟨w.heap.size, 1, none⟩ (.int .i16 y1)).setCell ⟨w.heap.size, 2, none⟩ (.int .i16 n1)).drew) := ((((HB3.out).setCell (p := ⟨w.heap.size, 0, none⟩) (Nat.le_refl _) _).setCell (p := ⟨w.heap.size, 1, none⟩) (Nat.le_refl _) _).setCell (p := ⟨w.heap.size, 2, none⟩) (Nat.le_refl _) _).drew
  clear HN3 HB3
  go_region
  go_wp2
  refine bodyPost_ret (v := .tuple #[.slice (some ⟨g0, 0, none⟩) hs.length c1, .agg #[.int .u8 k1, .int .i16 y1, .int .i16 n1], .int .i64 0]) (by simp [results, Tryd.results26, go_sem, *]) rfl ?_
  exact ⟨_, _, by (rw [E1.out, E2.out.1, E2.out.2, List.length_set, ← HLen.out]; rfl), by rw [E2.out.1]; exact HN4.out.rd wcells_length, HB4.out⟩
end Go.Proofs.YtceinefoljcgkaaDoor
