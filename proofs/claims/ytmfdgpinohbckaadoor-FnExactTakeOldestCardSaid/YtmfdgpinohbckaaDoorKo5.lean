/-
  The model's l04Reach. Condition: the rack reads as lists of things that are stored, at most eight of at most six; the place is one of the rack's.
-/
import Derived.Test.YtmfdgpinohbckaaDoorKo4
import Derived.Deep.CutRange
import Derived.Deep.DeepCutAuto
namespace Go.Proofs.YtmfdgpinohbckaaDoor
open Go.ChangeShapes Go.WideShapes Go.ChangeAt Go.RowKit Go.Deep

def rcR (xss : List (List Wnt)) (l : Nat) (xs : List Wnt) (i : Nat) : List (List Wnt) := match rcS xss l xs (xs.length - 1 - i) with
  | none => []
  | some r => r.set l (xs.take i)
def rcK (xss : List (List Wnt)) (l : Nat) (xs : List Wnt) (i : Nat) : Int := match rcS xss l xs (xs.length - 1 - i) with
  | none => 3
  | some _ => 0
/-- A rack that is empty, or of one's own. -/
def RdO (w : World) (b : Nat) (A : Option Addr) (c : Nat) (xss : List (List Wnt)) : Prop := xss = [] ∨ ∃ hs, OwnN w b 44 30 3 wcells A c hs xss
theorem RdO.rd {w : World} {b : Nat} {A : Option Addr} {c : Nat} {xss : List (List Wnt)} (h : RdO w b A c xss) : RdN w w.heap.size wcells A xss := by
  rcases h with rfl | ⟨hs, h⟩
  · exact rdN_nil _ _ _ _
  · exact h.rd wcells_length
theorem RdO.only {S : Nat → Prop} {w w' : World} {b : Nat} {A : Option Addr} {c : Nat} {xss : List (List Wnt)} (h : RdO w b A c xss) (ho : Only S w w') (hne : ∀ k, S k → k < b) : RdO w' b A c xss := by
  rcases h with rfl | ⟨hs, h⟩
  · exact .inl rfl
  · exact .inr ⟨hs, h.only ho hne⟩
theorem RdO.keep {w w' : World} {b : Nat} {A : Option Addr} {c : Nat} {xss : List (List Wnt)} (h : RdO w b A c xss) (hb : Below w.heap.size w w') : RdO w' b A c xss := by
  rcases h with rfl | ⟨hs, h⟩
  · exact .inl rfl
  · exact .inr ⟨hs, h.keep hb⟩
theorem RdO.base {w : World} {b b' : Nat} {A : Option Addr} {c : Nat} {xss : List (List Wnt)} (h : RdO w b A c xss) (hb : b' ≤ b) : RdO w b' A c xss := by
  rcases h with rfl | ⟨hs, h⟩
  · exact .inl rfl
  · exact .inr ⟨hs, h.base hb⟩
theorem own_frozen {w : World} {b size n c : Nat} {e : TypeId} {g0 : Nat} {xs : List Value} (h : w.ownsRow b e size (.slice (some ⟨g0, 0, none⟩) n c) n xs) (k : Nat) : w.frozen? ⟨g0, k, none⟩ = false := by
  rcases h.2 with ⟨e, -⟩ | ⟨g, cap, cur, hv, hb, hg', -⟩
  · cases e
  · have e0 := (Value.slice.inj hv).1
    simp only [Option.some.injEq, Addr.mk.injEq, and_true] at e0
    subst e0
    exact Blk.frozen (show Blk w g0 _ cur from hg') k
theorem rcB_no {xss : List (List Wnt)} {l : Nat} {xs : List Wnt} {i : Nat} (h : rcS xss l xs (xs.length - 1 - i) = none) : rcR xss l xs i = [] ∧ rcV xss l xs i = ((0, 0), 0) ∧ rcM xss l xs i = 0 ∧ rcK xss l xs i = 3 :=
  ⟨by rw [rcR, h], by rw [rcV, h], by rw [rcM, h], by rw [rcK, h]⟩
theorem rcB_yes {xss r : List (List Wnt)} {l : Nat} {xs : List Wnt} {i : Nat} {x : Wnt} (h : rcS xss l xs (xs.length - 1 - i) = some r) (hx : xs[i]? = some x) : rcR xss l xs i = r.set l (xs.take i) ∧ rcV xss l xs i = x ∧ rcM xss l xs i = xs.length - 1 - i ∧ rcK xss l xs i = 0 :=
  ⟨by rw [rcR, h], by rw [rcV, h]; simp [hx], by rw [rcM, h], by rw [rcK, h]⟩
set_option maxRecDepth 100000 in
set_option maxHeartbeats 4000000 in
theorem l04Reach_any (xss : List (List Wnt)) (A : Option Addr) (c : Nat) (l i : Nat) (xs : List Wnt) (w : World) (hl : xss.length ≤ 8) (h6 : ∀ xs ∈ xss, xs.length ≤ 6) (hwf : ∀ xs ∈ xss, ∀ x ∈ xs, wfW x) (hr : RdN w w.heap.size wcells A xss) (hx : xss[l]? = some xs) (hi : i < xs.length) :
    Calls Tryd.prog 38 #[.slice A xss.length c, .int .i64 (l : Int), .int .i64 (i : Int)] w fun e w' => ∃ A' c', e = .returned (.tuple #[.slice A' (rcR xss l xs i).length c', .agg (wcells (rcV xss l xs i)).toArray, .int .i64 (rcM xss l xs i : Nat), .int .i64 (rcK xss l xs i)]) ∧ RdO w' w.heap.size A' c' (rcR xss l xs i) ∧ Below w.heap.size w w' := by
  obtain ⟨i0, hi0, hz0, hz1, hz2⟩ := info_parts Tryd.infoTI
  have HI := Lib.hid hi0
  have HZ0 := Lib.hid hz0
  have HZ1 := Lib.hid hz1
  have HZ2 := Lib.hid hz2
  clear hi0 hz0 hz1 hz2
  have HR := Lib.hid hr
  have H6 := Lib.hid h6
  have HL8 := Lib.hid hl
  have HW := Lib.hid hwf
  have HX0 := Lib.hid hx
  clear hr hl h6 hwf hx
  have h1 : Blk (w.alloc (.cells #[.int .u8 0, .int .i16 0, .int .i16 0] 30)) w.heap.size 30 #[.int .u8 0, .int .i16 0, .int .i16 0] := Blk.new w _ _
  have h2 : Below w.heap.size w (w.alloc (.cells #[.int .u8 0, .int .i16 0, .int .i16 0] 30)) := (Below.refl _ w).alloc (Nat.le_refl _) _
  obtain ⟨W0, hW0⟩ : ∃ W0, w.alloc (.cells #[.int .u8 0, .int .i16 0, .int .i16 0] 30) = W0 := ⟨_, rfl⟩
  rw [hW0] at h1 h2
  have H1 := Lib.hid h1
  have H2 := Lib.hid h2
  clear h1 h2
  go_enter Tryd.func38, Tryd.ntmps38
  go_wp2_with fail
  clear hW0
  refine (l04Own_any xss A c W0 (by have := HL8.out; omega) (fun xs h => Nat.le_trans (H6.out xs h) (by decide)) (HR.out.keep H2.out)).mono ?_
  rintro e w1 ⟨Am, cm, hs, rfl, hN, hb1⟩
  obtain ⟨b, hb⟩ : ∃ b, b = W0.heap.size := ⟨_, rfl⟩
  rw [← hb] at hN hb1
  have HN1 := Lib.hid hN
  have HB1 := Lib.hid hb1
  have HLB : Hid (w.heap.size < b) := by have := H1.out.lt; show _ < _; omega
  have HLb : Hid (b = W0.heap.size) := hb
  clear hN hb1 hb
  go_wp2_with fail
  go_loopw [11] (fun m wr => ∃ (q : Nat) (r : List (List Wnt)) (hs : List Hd), q + i + 1 ≤ xs.length ∧ m = .int .i64 q ∧ rcS xss l xs q = some r ∧ OwnN wr b 44 30 3 wcells Am cm hs r ∧ Below b W0 wr)
    (fun m _ => xs.length - (intOf m).toNat)
  case atStart => exact ⟨0, xss, hs, by omega, rfl, rfl, HN1.out, HB1.out⟩
  case round =>
    clear HN1 HB1
    clear hs
    obtain ⟨q, r, hs, hq, rfl, hR, hN, hB⟩ := hrel
    obtain ⟨wa, rfl⟩ : ∃ u, u = wr := ⟨_, rfl⟩
    have hl6 : xs.length ≤ 6 := H6.out xs (List.mem_of_getElem? HX0.out)
    obtain ⟨ok1, ok2, ok3, ok4⟩ := rcS_ok HX0.out H6.out HW.out q (by omega) r hR
    obtain ⟨j, hj⟩ : ∃ j, j = xs.length - 1 - q := ⟨_, rfl⟩
    have hjl : j < xs.length := by omega
    have htk : (xs.take (xs.length - q)).length = j + 1 := by rw [List.length_take]; omega
    obtain ⟨x, hxj⟩ : ∃ x, xs[j]? = some x := ⟨_, List.getElem?_eq_getElem hjl⟩
    have hxt : (xs.take (xs.length - q))[j]? = some x := by rw [List.getElem?_take_of_lt (by omega)]; exact hxj
    have hll := (List.getElem?_eq_some_iff.1 ok2).1
    have hlen : hs.length = r.length := hN.2.1
    obtain ⟨⟨al, ml, cl⟩, hhl⟩ : ∃ h, hs[l]? = some h := ⟨_, List.getElem?_eq_getElem (by omega)⟩
    obtain ⟨em, howl⟩ := hN.2.2.1 l _ _ hhl ok2
    dsimp only at em howl
    rw [htk] at em
    subst em
    obtain ⟨b0, o0, e0, hb0, hrow⟩ := (own_rd2 hcells_length hN.1).at_ hcells_length hhl
    obtain ⟨g0, rfl⟩ : ∃ g, Am = some ⟨g, 0, none⟩ := by
      rcases hN.1.2 with ⟨e, -⟩ | ⟨g, cap, cur, hv, -⟩
      · rw [e0] at e; cases e
      · exact ⟨g, (Value.slice.inj hv).1⟩
    obtain ⟨rfl, rfl⟩ : g0 = b0 ∧ 0 = o0 := by simpa using e0
    have hcl := rowH hrow
    rw [Nat.zero_add] at hcl
    dsimp only at hcl
    rw [htk] at howl
    obtain ⟨g1, o1, rfl, hg1, hrow1⟩ := (own_rd2 wcells_length (by rw [htk]; exact howl)).at_ wcells_length hxt
    obtain ⟨⟨k1, y1⟩, n1⟩ := x
    obtain ⟨p1, p2, p3⟩ := rowW hrow1
    have hl0 : (0 : Int) ≤ (l : Int) := Int.natCast_nonneg _
    have hl8 : (l : Int) < xss.length := by omega
    have hw1 : IntKind.i64.wrap (((j + 1 : Nat) : Int) - 1) = j := by rw [show ((j + 1 : Nat) : Int) - 1 = j from by omega]; exact IntWalk.i64_in _ ⟨by omega, by omega⟩
    have hw2 : wrap64 (((j + 1 : Nat) : Int) - 1) = j := by rw [show ((j + 1 : Nat) : Int) - 1 = j from by omega]; exact IntWalk.wrap64_in _ ⟨by omega, by omega⟩
    have HRr := Lib.hid hR
    have HN := Lib.hid hN
    have HB := Lib.hid hB
    have HO1 := Lib.hid ok1
    have HO2 := Lib.hid ok2
    have HO3 := Lib.hid ok3
    have HQ := Lib.hid hq
    have HJ := Lib.hid hj
    have HTk := Lib.hid htk
    have HXj := Lib.hid hxj
    have HHl := Lib.hid hhl
    have HOwl := Lib.hid howl
    have HCl := Lib.hid hcl
    have HP := Lib.hid (And.intro p1 (And.intro p2 p3))
    have HLl := Lib.hid hll
    clear hR hN hB ok1 ok2 ok3 ok4 hj htk hxj hxt hhl howl hrow hrow1 p1 p2 p3 hll hlen e0
    by_cases hij : i < j
    · have hij2 : (i : Int) < (j : Int) := by omega
      have hRoom := l04Room_any r (some ⟨g0, 0, none⟩) cm l wa (by rw [HO1.out]; exact HL8.out) HO3.out (HN.out.rd wcells_length)
      obtain ⟨T, hT⟩ : ∃ T, rmT r l r.length = T := ⟨_, rfl⟩
      rw [hT, HO1.out] at hRoom
      have HRoom := Lib.hid hRoom
      have HT := Lib.hid hT
      clear hRoom hT
      go_wp2_with fail
      refine HRoom.out.mono ?_
      rintro e w5 ⟨rfl, hb5⟩
      have HN5 : Hid (OwnN w5 b 44 30 3 wcells (some ⟨g0, 0, none⟩) cm hs r) := HN.out.keep hb5
      have HB5 : Hid (Below b W0 w5) := HB.out.trans (hb5.mono (by rw [HLb.out]; exact HB.out.size))
      have hel : w5.cell? ⟨g0, l, none⟩ = some (.slice (some ⟨g1, o1, none⟩) (j + 1) cl) := (hb5.cell (p := ⟨g0, l, none⟩) hb0).trans HCl.out
      have d0 : w5.cell? ⟨g1, o1 + j * 3, none⟩ = some (.int .u8 k1) := (hb5.cell (p := ⟨g1, o1 + j * 3, none⟩) hg1).trans HP.out.1
      have d1 : w5.cell? ⟨g1, o1 + j * 3 + 1, none⟩ = some (.int .i16 y1) := (hb5.cell (p := ⟨g1, o1 + j * 3 + 1, none⟩) hg1).trans HP.out.2.1
      have d2 : w5.cell? ⟨g1, o1 + j * 3 + 2, none⟩ = some (.int .i16 n1) := (hb5.cell (p := ⟨g1, o1 + j * 3 + 2, none⟩) hg1).trans HP.out.2.2
      have HC5 : Hid (Blk w5 w.heap.size 30 #[.int .u8 0, .int .i16 0, .int .i16 0]) := H1.out.keep (by rw [← HLb.out]; exact HB5.out)
      have HZ5 : Hid (b ≤ w5.heap.size) := by have := HB5.out.size; have := HLb.out; show _ ≤ _; omega
      clear hb5 HN HB HRoom
      obtain ⟨wb, hwb⟩ : ∃ u, u = w5 := ⟨_, rfl⟩
      subst hwb
      cases T with
      | none =>
        have hno := rcS_stop (m := xs.length - 1 - i) HRr.out HT.out (by have := HJ.out; omega)
        have HE := Lib.hid (rcB_no hno)
        rw [show rmI none = -1 from rfl]
        have HBw : Hid (Below w.heap.size w wb) := H2.out.trans (HB5.out.mono (Nat.le_of_lt HLB.out))
        have hA5 : Below wb.heap.size wb (wb.alloc (.cells #[] 44)) := (Below.refl _ wb).alloc (Nat.le_refl _) _
        obtain ⟨W5, hW5⟩ : ∃ W5, wb.alloc (.cells #[] 44) = W5 := ⟨_, rfl⟩
        rw [hW5] at hA5
        have HC6 := Lib.hid (HC5.out.keep hA5)
        have HB6 := Lib.hid (HBw.out.trans (hA5.mono HBw.out.size))
        have z0 : W5.cell? ⟨w.heap.size, 0, none⟩ = some (.int .u8 0) := HC6.out.cell 0
        have z1 : W5.cell? ⟨w.heap.size, 1, none⟩ = some (.int .i16 0) := HC6.out.cell 1
        have z2 : W5.cell? ⟨w.heap.size, 2, none⟩ = some (.int .i16 0) := HC6.out.cell 2
        have f0 : W5.frozen? ⟨w.heap.size, 0, none⟩ = false := HC6.out.frozen 0
        have f1 : W5.frozen? ⟨w.heap.size, 1, none⟩ = false := HC6.out.frozen 1
        have f2 : W5.frozen? ⟨w.heap.size, 2, none⟩ = false := HC6.out.frozen 2
        clear hno d0 d1 d2 hel hw1 hw2 hA5
        go_wp2
        try simp only [Exit.inBlock, Exit.then]
        refine bodyPost_ret (v := .tuple #[.slice (some ⟨wb.heap.size, 0, none⟩) 0 0, .agg #[.int .u8 0, .int .i16 0, .int .i16 0], .int .i64 0, .int .i64 3]) (by simp [results, Tryd.results38, go_sem, *]) rfl ?_
        exact ⟨_, _, by (rw [HE.out.1, HE.out.2.1, HE.out.2.2.1, HE.out.2.2.2]; rfl), by rw [HE.out.1]; exact .inl rfl, ((((HB6.out).setCell (p := ⟨w.heap.size, 0, none⟩) (Nat.le_refl _) _).setCell (p := ⟨w.heap.size, 1, none⟩) (Nat.le_refl _) _).setCell (p := ⟨w.heap.size, 2, none⟩) (Nat.le_refl _) _)⟩
      | some k =>
        obtain ⟨-, htl, zs, hz, hz6⟩ := rm_ok _ (Nat.le_refl _) k HT.out
        have hst := rcS_step HRr.out HT.out hz (by rw [← HJ.out]; exact HXj.out)
        rw [← HJ.out] at hst
        have HSt := Lib.hid hst
        have HZk := Lib.hid hz
        have HTl := Lib.hid htl
        rw [show rmI (some k) = (k : Int) from rfl]
        have hk0 : (0 : Int) ≤ (k : Int) := Int.natCast_nonneg _
        have hk9 : ¬ (k : Int) < 0 := by omega
        have hkr := (List.getElem?_eq_some_iff.1 hz).1
        have hk8 : (k : Int) < xss.length := by have := HO1.out; omega
        have hj0 : (0 : Int) ≤ (j : Int) := Int.natCast_nonneg _
        have hj1 : (j : Int) < ((j + 1 : Nat) : Int) := by omega
        have hj9 : ¬ (j : Int) + 1 ≤ (j : Int) := by omega
        have HM1 : Hid (q + 1 + i + 1 ≤ xs.length) := by have := HJ.out; show _ ≤ _; omega
        have HM2 : Hid (xs.length - (q + 1) < xs.length - q) := by have := HQ.out; show _ < _; omega
        have HJl : Hid (xs.length - q = j + 1) := by have := HJ.out; have := HQ.out; show _ = _; omega
        obtain ⟨hwr1, hwr2⟩ := i64_succK q (by have := HQ.out; omega)
        obtain ⟨⟨a, m0, c0⟩, hhk⟩ : ∃ h, hs[k]? = some h := ⟨_, List.getElem?_eq_getElem (by rw [HN5.out.2.1]; exact hkr)⟩
        obtain ⟨em, how⟩ := HN5.out.2.2.1 k _ zs hhk HZk.out
        dsimp only at em how
        subst em
        obtain ⟨b2, o2, e2, hb2, hrow⟩ := (own_rd2 hcells_length HN5.out.1).at_ hcells_length hhk
        obtain ⟨rfl, rfl⟩ : g0 = b2 ∧ 0 = o2 := by simpa using e2
        have hc1 := rowH hrow
        rw [Nat.zero_add] at hc1
        dsimp only at hc1
        have HK := Lib.hid hhk
        have HOW := Lib.hid how
        have HBW : Hid (Below wb.heap.size wb (wb.alloc (.cells #[.int .u8 k1, .int .i16 y1, .int .i16 n1] 30)).drew) := ((Below.refl _ wb).alloc (Nat.le_refl _) _).drew
        have hcW2 : (wb.alloc (.cells #[.int .u8 k1, .int .i16 y1, .int .i16 n1] 30)).cell? ⟨g0, k, none⟩ = some (.slice a zs.length c0) := (((Below.refl wb.heap.size wb).alloc (Nat.le_refl _) _).cell (p := ⟨g0, k, none⟩) hb2).trans hc1
        have hg0b : b ≤ g0 := (own_block HN5.out.1 rfl).1
        have HG0 := Lib.hid hg0b
        clear hz htl hst hkr hhk how hrow e2 hg0b HRr HT hij
        go_wp2_with fail
        refine wp_region_any (by kernel_rfl) ?_
        try (change wpAny _ _ _ _ _ _ _ (World.drew _))
        refine wpAny_take (i := 0) (v := .slice (some ⟨g0, 0, none⟩) xss.length cm) rfl (by kernel_rfl) (by kernel_rfl) (by kernel_rfl) (fun _ _ _ h => h) (Or.inl ⟨by rfl, fun w' => by go_simp⟩) ?_
        try simp only [Act.put, List.getElem_toArray, List.getElem_cons_zero, List.getElem_cons_succ, List.setIfInBounds_toArray, List.set_cons_zero, List.set_cons_succ]
        refine wpAny_take (i := 1) (v := .int .i64 k) rfl (by kernel_rfl) (by kernel_rfl) (by kernel_rfl) (fun _ _ _ h => h) (Or.inl ⟨by rfl, fun w' => by go_simp⟩) ?_
        try simp only [Act.put, List.getElem_toArray, List.getElem_cons_zero, List.getElem_cons_succ, List.setIfInBounds_toArray, List.set_cons_zero, List.set_cons_succ]
        refine wpAny_take (i := 2) (v := .slice (some ⟨g0, 0, none⟩) xss.length cm) rfl (by kernel_rfl) (by kernel_rfl) (by kernel_rfl) (fun _ _ _ h => h) (Or.inl ⟨by rfl, fun w' => by go_simp⟩) ?_
        try simp only [Act.put, List.getElem_toArray, List.getElem_cons_zero, List.getElem_cons_succ, List.setIfInBounds_toArray, List.set_cons_zero, List.set_cons_succ]
        refine wpAny_take (i := 3) (v := .int .i64 k) rfl (by kernel_rfl) (by kernel_rfl) (by kernel_rfl) (fun _ _ _ h => h) (Or.inl ⟨by rfl, fun w' => by go_simp⟩) ?_
        try simp only [Act.put, List.getElem_toArray, List.getElem_cons_zero, List.getElem_cons_succ, List.setIfInBounds_toArray, List.set_cons_zero, List.set_cons_succ]
        refine wpAny_take (i := 4) (v := .pointer (some ⟨g0, k, none⟩)) rfl (by kernel_rfl) (by kernel_rfl) (by kernel_rfl) (fun _ _ _ h => h) (Or.inl ⟨by rfl, fun w' => by go_simp⟩) ?_
        try simp only [Act.put, List.getElem_toArray, List.getElem_cons_zero, List.getElem_cons_succ, List.setIfInBounds_toArray, List.set_cons_zero, List.set_cons_succ]
        refine wpAny_take (i := 6) (v := .slice (some ⟨g0, 0, none⟩) xss.length cm) rfl (by kernel_rfl) (by kernel_rfl) (by kernel_rfl) (fun _ _ _ h => h) (Or.inl ⟨by rfl, fun w' => by go_simp⟩) ?_
        try simp only [Act.put, List.getElem_toArray, List.getElem_cons_zero, List.getElem_cons_succ, List.setIfInBounds_toArray, List.set_cons_zero, List.set_cons_succ]
        refine wpAny_take (i := 7) (v := .int .i64 l) rfl (by kernel_rfl) (by kernel_rfl) (by kernel_rfl) (fun _ _ _ h => h) (Or.inl ⟨by rfl, fun w' => by go_simp⟩) ?_
        try simp only [Act.put, List.getElem_toArray, List.getElem_cons_zero, List.getElem_cons_succ, List.setIfInBounds_toArray, List.set_cons_zero, List.set_cons_succ]
        refine wpAny_take (i := 8) (v := .pointer (some ⟨g0, l, none⟩)) rfl (by kernel_rfl) (by kernel_rfl) (by kernel_rfl) (fun _ _ _ h => h) (Or.inl ⟨by rfl, fun w' => by go_simp⟩) ?_
        try simp only [Act.put, List.getElem_toArray, List.getElem_cons_zero, List.getElem_cons_succ, List.setIfInBounds_toArray, List.set_cons_zero, List.set_cons_succ]
        refine wpAny_take (i := 10) (v := .int .i64 j) rfl (by kernel_rfl) (by kernel_rfl) (by kernel_rfl) (fun _ _ _ h => h) (Or.inl ⟨by rfl, fun w' => by go_simp⟩) ?_
        try simp only [Act.put, List.getElem_toArray, List.getElem_cons_zero, List.getElem_cons_succ, List.setIfInBounds_toArray, List.set_cons_zero, List.set_cons_succ]
        refine wpAny_ready (rs := [5, 9]) (by kernel_rfl) (by simp) ?_
        refine AllReady.cons rfl (fun K hK => ?_) (AllReady.cons rfl (fun K hK => ?_) AllReady.nil)
        · skip
          refine if_wanted rfl ?_
          go_simp
          refine hK _ _ ?_
          clear hK K
          try simp only [Act.put, List.getElem_toArray, List.getElem_cons_zero, List.getElem_cons_succ, List.setIfInBounds_toArray, List.set_cons_zero, List.set_cons_succ]
          refine wpAny_ready (rs := [9]) (by kernel_rfl) (by simp) ?_
          refine AllReady.cons rfl (fun K hK => ?_) AllReady.nil
          refine if_wanted rfl ?_
          go_simp
          refine hK _ _ ?_
          clear hK K
          try simp only [Act.put, List.getElem_toArray, List.getElem_cons_zero, List.getElem_cons_succ, List.setIfInBounds_toArray, List.set_cons_zero, List.set_cons_succ]
          refine wpAny_take (i := 11) (v := .pointer (some ⟨g1, o1 + j * 3, none⟩)) rfl (by kernel_rfl) (by kernel_rfl) (by kernel_rfl) (fun _ _ _ h => h) (Or.inl ⟨by rfl, fun w' => by go_simp⟩) ?_
          try simp only [Act.put, List.getElem_toArray, List.getElem_cons_zero, List.getElem_cons_succ, List.setIfInBounds_toArray, List.set_cons_zero, List.set_cons_succ]
          refine wpAny_ready (rs := [12]) (by kernel_rfl) (by simp) ?_
          refine AllReady.cons rfl (fun K hK => ?_) AllReady.nil
          refine if_wanted rfl ?_
          go_simp
          refine hK _ _ ?_
          clear hK K
          try simp only [Act.put, List.getElem_toArray, List.getElem_cons_zero, List.getElem_cons_succ, List.setIfInBounds_toArray, List.set_cons_zero, List.set_cons_succ]
          refine wpAny_ready (rs := [13]) (by kernel_rfl) (by simp) ?_
          refine AllReady.cons rfl (fun K hK => ?_) AllReady.nil
          refine if_wanted rfl ?_
          go_simp
          refine hK _ _ ?_
          clear hK K
          try simp only [Act.put, List.getElem_toArray, List.getElem_cons_zero, List.getElem_cons_succ, List.setIfInBounds_toArray, List.set_cons_zero, List.set_cons_succ]
          refine wpAny_ready (rs := [14]) (by kernel_rfl) (by simp) ?_
          refine AllReady.cons rfl (fun K hK => ?_) AllReady.nil
          refine if_wanted rfl ?_
          refine wp_append_any _ (.tmp 43) (.tmp 51) 44 44 rfl b 30 i0 (.agg #[.int .u8 0, .int .i16 0, .int .i16 0]) 3 6 Tryd.underlying44 HI.out HZ0.out HZ1.out HZ2.out rfl (by decide) (.slice a zs.length c0) zs.length (zs.flatMap wcells) rfl ((HOW.out.alloc _).drew) _ 1 [.int .u8 k1, .int .i16 y1, .int .i16 n1] rfl (Src.ofSlice _ Tryd.underlying44 ⟨wb.heap.size, 0, none⟩ 1 1 _ rfl (three_cells wb _ k1 y1 n1) (by intro u hu; simp only [List.mem_cons, List.not_mem_nil, or_false] at hu; rcases hu with rfl | rfl | rfl <;> rfl)) (by unfold maxLen; omega) (by omega) (by have := HZ5.out; simp; omega) ?_
          intro v' w5 hown5 hg5 hblk5
          rw [ownBlock_slice] at hg5 hblk5
          have hown6 : w5.ownsRow b 30 3 v' (zs ++ [((k1, y1), n1)]).length ((zs ++ [((k1, y1), n1)]).flatMap wcells) := by rw [List.length_append, List.flatMap_append]; simpa [wcells] using hown5
          obtain ⟨A5, c5, rfl, -, -⟩ := own_rd wcells_length hown6
          rw [ownBlock_slice] at hblk5
          have hN6 := OwnN.put HN5.out HK.out HZk.out HBW.out hown6 hg5 hblk5
          rw [show (zs ++ [((k1, y1), n1)]).length = zs.length + 1 from by simp] at hN6
          have HN6 := Lib.hid hN6
          have e5 : w5.cell? ⟨g0, k, none⟩ = some (.slice a zs.length c0) := put_cell HN5.out HK.out HBW.out hg5 hc1
          have f5 : w5.frozen? ⟨g0, k, none⟩ = false := put_frozen HN5.out HK.out HBW.out hg5
          have HB6 : Hid (Below b W0 w5) := put_below HB5.out HOW.out hg5 (by have := HZ5.out; omega)
          clear hown5 hown6 hg5 hblk5 hN6
          refine hK _ _ ?_
          clear hK K
          try simp only [Act.put, List.getElem_toArray, List.getElem_cons_zero, List.getElem_cons_succ, List.setIfInBounds_toArray, List.set_cons_zero, List.set_cons_succ]
          refine wpAny_take (i := 15) (v := .pointer (some ⟨g0, k, none⟩)) rfl (by kernel_rfl) (by kernel_rfl) (by kernel_rfl) (fun _ _ _ h => h) (Or.inl ⟨by rfl, fun w' => by go_simp⟩) ?_
          try simp only [Act.put, List.getElem_toArray, List.getElem_cons_zero, List.getElem_cons_succ, List.setIfInBounds_toArray, List.set_cons_zero, List.set_cons_succ]
          refine wpAny_ready (rs := [16]) (by kernel_rfl) (by simp) ?_
          refine AllReady.cons rfl (fun K hK => ?_) AllReady.nil
          refine if_wanted rfl ?_
          go_simp
          refine hK _ _ ?_
          clear hK K
          try simp only [Act.put, List.getElem_toArray, List.getElem_cons_zero, List.getElem_cons_succ, List.setIfInBounds_toArray, List.set_cons_zero, List.set_cons_succ]
          refine wpAny_done (by kernel_rfl) ?_ _
          try simp only [Act.put, List.getElem_toArray, List.getElem_cons_zero, List.getElem_cons_succ, List.setIfInBounds_toArray, List.set_cons_zero, List.set_cons_succ]
          have hb6 : Below b W0 (w5.setCell ⟨g0, k, none⟩ (.slice A5 (zs.length + 1) c5)) := HB6.out.setCell (p := ⟨g0, k, none⟩) HG0.out _
          have hn6 := HN6.out
          obtain ⟨w6, hw6⟩ : ∃ u, w5.setCell ⟨g0, k, none⟩ (.slice A5 (zs.length + 1) c5) = u := ⟨_, rfl⟩
          rw [hw6] at hb6 hn6 ⊢
          have hsl : (hs.set k (A5, zs.length + 1, c5))[l]? = some (some ⟨g1, o1, none⟩, j + 1, cl) := by rw [List.getElem?_set_ne HTl.out]; exact HHl.out
          have hrl : (r.set k (zs ++ [((k1, y1), n1)]))[l]? = some (xs.take (xs.length - q)) := by rw [List.getElem?_set_ne HTl.out]; exact HO2.out
          obtain ⟨-, how7⟩ := hn6.2.2.1 l _ _ hsl hrl
          obtain ⟨b3, o3, e3, hb3, hrow3⟩ := (own_rd2 hcells_length hn6.1).at_ hcells_length hsl
          obtain ⟨rfl, rfl⟩ : g0 = b3 ∧ 0 = o3 := by simpa using e3
          have hel6 := rowH hrow3
          rw [Nat.zero_add] at hel6
          dsimp only at hel6 how7
          have hf6 : w6.frozen? ⟨g0, l, none⟩ = false := own_frozen hn6.1 l
          have how8 : w6.ownsRow b 30 3 (.slice (some ⟨g1, o1, none⟩) (xs.take (xs.length - q)).length cl) (xs.take (xs.length - q)).length ((xs.take (xs.length - q)).flatMap wcells) := by first | exact how7 | (rw [HTk.out]; first | exact how7 | (rw [HTk.out] at how7; exact how7))
          have hjc : (j : Int) ≤ (cl : Int) := by have := own_cap how8; rw [HTk.out] at this; omega
          have hN7 := OwnN.put hn6 hsl hrl (Below.refl _ w6) (own_shrink wcells_length how8 (m := j) (by rw [HTk.out]; omega)) (gk_refl w6 _) (.inl rfl)
          have hlt : (xs.take (xs.length - q)).take j = xs.take j := by rw [List.take_take, HJl.out, Nat.min_eq_left (Nat.le_succ j)]
          have hlj : (xs.take j).length = j := by rw [List.length_take]; omega
          rw [hlt, hlj] at hN7
          have HN7 := Lib.hid hN7
          have HB7 : Hid (Below b W0 (w6.setCell ⟨g0, l, none⟩ (.slice (some ⟨g1, o1, none⟩) j cl))) := hb6.setCell (p := ⟨g0, l, none⟩) HG0.out _
          clear hw6 hb6 hn6 hsl hrl how7 how8 hrow3 e3 hN7 hlt hlj e5 f5 HN6 HB6 hc1 hcW2 d0 d1 d2 hel hb3
          go_wp2
          go_roundw
          case rel => exact ⟨q + 1, _, _, HM1.out, by first | rfl | go_num, HSt.out, HN7.out, HB7.out⟩
          case measure => have := HM2.out; simp [intOf]; omega
        · skip
          refine if_wanted rfl ?_
          go_simp
          refine hK _ _ ?_
          clear hK K
          try simp only [Act.put, List.getElem_toArray, List.getElem_cons_zero, List.getElem_cons_succ, List.setIfInBounds_toArray, List.set_cons_zero, List.set_cons_succ]
          refine wpAny_take (i := 11) (v := .pointer (some ⟨g1, o1 + j * 3, none⟩)) rfl (by kernel_rfl) (by kernel_rfl) (by kernel_rfl) (fun _ _ _ h => h) (Or.inl ⟨by rfl, fun w' => by go_simp⟩) ?_
          try simp only [Act.put, List.getElem_toArray, List.getElem_cons_zero, List.getElem_cons_succ, List.setIfInBounds_toArray, List.set_cons_zero, List.set_cons_succ]
          refine wpAny_ready (rs := [5, 12]) (by kernel_rfl) (by simp) ?_
          refine AllReady.cons rfl (fun K hK => ?_) (AllReady.cons rfl (fun K hK => ?_) AllReady.nil)
          · skip
            refine if_wanted rfl ?_
            go_simp
            refine hK _ _ ?_
            clear hK K
            try simp only [Act.put, List.getElem_toArray, List.getElem_cons_zero, List.getElem_cons_succ, List.setIfInBounds_toArray, List.set_cons_zero, List.set_cons_succ]
            refine wpAny_ready (rs := [12]) (by kernel_rfl) (by simp) ?_
            refine AllReady.cons rfl (fun K hK => ?_) AllReady.nil
            refine if_wanted rfl ?_
            go_simp
            refine hK _ _ ?_
            clear hK K
            try simp only [Act.put, List.getElem_toArray, List.getElem_cons_zero, List.getElem_cons_succ, List.setIfInBounds_toArray, List.set_cons_zero, List.set_cons_succ]
            refine wpAny_ready (rs := [13]) (by kernel_rfl) (by simp) ?_
            refine AllReady.cons rfl (fun K hK => ?_) AllReady.nil
            refine if_wanted rfl ?_
            go_simp
            refine hK _ _ ?_
            clear hK K
            try simp only [Act.put, List.getElem_toArray, List.getElem_cons_zero, List.getElem_cons_succ, List.setIfInBounds_toArray, List.set_cons_zero, List.set_cons_succ]
            refine wpAny_ready (rs := [14]) (by kernel_rfl) (by simp) ?_
            refine AllReady.cons rfl (fun K hK => ?_) AllReady.nil
            refine if_wanted rfl ?_
            refine wp_append_any _ (.tmp 43) (.tmp 51) 44 44 rfl b 30 i0 (.agg #[.int .u8 0, .int .i16 0, .int .i16 0]) 3 6 Tryd.underlying44 HI.out HZ0.out HZ1.out HZ2.out rfl (by decide) (.slice a zs.length c0) zs.length (zs.flatMap wcells) rfl ((HOW.out.alloc _).drew) _ 1 [.int .u8 k1, .int .i16 y1, .int .i16 n1] rfl (Src.ofSlice _ Tryd.underlying44 ⟨wb.heap.size, 0, none⟩ 1 1 _ rfl (three_cells wb _ k1 y1 n1) (by intro u hu; simp only [List.mem_cons, List.not_mem_nil, or_false] at hu; rcases hu with rfl | rfl | rfl <;> rfl)) (by unfold maxLen; omega) (by omega) (by have := HZ5.out; simp; omega) ?_
            intro v' w5 hown5 hg5 hblk5
            rw [ownBlock_slice] at hg5 hblk5
            have hown6 : w5.ownsRow b 30 3 v' (zs ++ [((k1, y1), n1)]).length ((zs ++ [((k1, y1), n1)]).flatMap wcells) := by rw [List.length_append, List.flatMap_append]; simpa [wcells] using hown5
            obtain ⟨A5, c5, rfl, -, -⟩ := own_rd wcells_length hown6
            rw [ownBlock_slice] at hblk5
            have hN6 := OwnN.put HN5.out HK.out HZk.out HBW.out hown6 hg5 hblk5
            rw [show (zs ++ [((k1, y1), n1)]).length = zs.length + 1 from by simp] at hN6
            have HN6 := Lib.hid hN6
            have e5 : w5.cell? ⟨g0, k, none⟩ = some (.slice a zs.length c0) := put_cell HN5.out HK.out HBW.out hg5 hc1
            have f5 : w5.frozen? ⟨g0, k, none⟩ = false := put_frozen HN5.out HK.out HBW.out hg5
            have HB6 : Hid (Below b W0 w5) := put_below HB5.out HOW.out hg5 (by have := HZ5.out; omega)
            clear hown5 hown6 hg5 hblk5 hN6
            refine hK _ _ ?_
            clear hK K
            try simp only [Act.put, List.getElem_toArray, List.getElem_cons_zero, List.getElem_cons_succ, List.setIfInBounds_toArray, List.set_cons_zero, List.set_cons_succ]
            refine wpAny_take (i := 15) (v := .pointer (some ⟨g0, k, none⟩)) rfl (by kernel_rfl) (by kernel_rfl) (by kernel_rfl) (fun _ _ _ h => h) (Or.inl ⟨by rfl, fun w' => by go_simp⟩) ?_
            try simp only [Act.put, List.getElem_toArray, List.getElem_cons_zero, List.getElem_cons_succ, List.setIfInBounds_toArray, List.set_cons_zero, List.set_cons_succ]
            refine wpAny_ready (rs := [16]) (by kernel_rfl) (by simp) ?_
            refine AllReady.cons rfl (fun K hK => ?_) AllReady.nil
            refine if_wanted rfl ?_
            go_simp
            refine hK _ _ ?_
            clear hK K
            try simp only [Act.put, List.getElem_toArray, List.getElem_cons_zero, List.getElem_cons_succ, List.setIfInBounds_toArray, List.set_cons_zero, List.set_cons_succ]
            refine wpAny_done (by kernel_rfl) ?_ _
            try simp only [Act.put, List.getElem_toArray, List.getElem_cons_zero, List.getElem_cons_succ, List.setIfInBounds_toArray, List.set_cons_zero, List.set_cons_succ]
            have hb6 : Below b W0 (w5.setCell ⟨g0, k, none⟩ (.slice A5 (zs.length + 1) c5)) := HB6.out.setCell (p := ⟨g0, k, none⟩) HG0.out _
            have hn6 := HN6.out
            obtain ⟨w6, hw6⟩ : ∃ u, w5.setCell ⟨g0, k, none⟩ (.slice A5 (zs.length + 1) c5) = u := ⟨_, rfl⟩
            rw [hw6] at hb6 hn6 ⊢
            have hsl : (hs.set k (A5, zs.length + 1, c5))[l]? = some (some ⟨g1, o1, none⟩, j + 1, cl) := by rw [List.getElem?_set_ne HTl.out]; exact HHl.out
            have hrl : (r.set k (zs ++ [((k1, y1), n1)]))[l]? = some (xs.take (xs.length - q)) := by rw [List.getElem?_set_ne HTl.out]; exact HO2.out
            obtain ⟨-, how7⟩ := hn6.2.2.1 l _ _ hsl hrl
            obtain ⟨b3, o3, e3, hb3, hrow3⟩ := (own_rd2 hcells_length hn6.1).at_ hcells_length hsl
            obtain ⟨rfl, rfl⟩ : g0 = b3 ∧ 0 = o3 := by simpa using e3
            have hel6 := rowH hrow3
            rw [Nat.zero_add] at hel6
            dsimp only at hel6 how7
            have hf6 : w6.frozen? ⟨g0, l, none⟩ = false := own_frozen hn6.1 l
            have how8 : w6.ownsRow b 30 3 (.slice (some ⟨g1, o1, none⟩) (xs.take (xs.length - q)).length cl) (xs.take (xs.length - q)).length ((xs.take (xs.length - q)).flatMap wcells) := by first | exact how7 | (rw [HTk.out]; first | exact how7 | (rw [HTk.out] at how7; exact how7))
            have hjc : (j : Int) ≤ (cl : Int) := by have := own_cap how8; rw [HTk.out] at this; omega
            have hN7 := OwnN.put hn6 hsl hrl (Below.refl _ w6) (own_shrink wcells_length how8 (m := j) (by rw [HTk.out]; omega)) (gk_refl w6 _) (.inl rfl)
            have hlt : (xs.take (xs.length - q)).take j = xs.take j := by rw [List.take_take, HJl.out, Nat.min_eq_left (Nat.le_succ j)]
            have hlj : (xs.take j).length = j := by rw [List.length_take]; omega
            rw [hlt, hlj] at hN7
            have HN7 := Lib.hid hN7
            have HB7 : Hid (Below b W0 (w6.setCell ⟨g0, l, none⟩ (.slice (some ⟨g1, o1, none⟩) j cl))) := hb6.setCell (p := ⟨g0, l, none⟩) HG0.out _
            clear hw6 hb6 hn6 hsl hrl how7 how8 hrow3 e3 hN7 hlt hlj e5 f5 HN6 HB6 hc1 hcW2 d0 d1 d2 hel hb3
            go_wp2
            go_roundw
            case rel => exact ⟨q + 1, _, _, HM1.out, by first | rfl | go_num, HSt.out, HN7.out, HB7.out⟩
            case measure => have := HM2.out; simp [intOf]; omega
          · skip
            refine if_wanted rfl ?_
            go_simp
            refine hK _ _ ?_
            clear hK K
            try simp only [Act.put, List.getElem_toArray, List.getElem_cons_zero, List.getElem_cons_succ, List.setIfInBounds_toArray, List.set_cons_zero, List.set_cons_succ]
            refine wpAny_ready (rs := [5, 13]) (by kernel_rfl) (by simp) ?_
            refine AllReady.cons rfl (fun K hK => ?_) (AllReady.cons rfl (fun K hK => ?_) AllReady.nil)
            · skip
              refine if_wanted rfl ?_
              go_simp
              refine hK _ _ ?_
              clear hK K
              try simp only [Act.put, List.getElem_toArray, List.getElem_cons_zero, List.getElem_cons_succ, List.setIfInBounds_toArray, List.set_cons_zero, List.set_cons_succ]
              refine wpAny_ready (rs := [13]) (by kernel_rfl) (by simp) ?_
              refine AllReady.cons rfl (fun K hK => ?_) AllReady.nil
              refine if_wanted rfl ?_
              go_simp
              refine hK _ _ ?_
              clear hK K
              try simp only [Act.put, List.getElem_toArray, List.getElem_cons_zero, List.getElem_cons_succ, List.setIfInBounds_toArray, List.set_cons_zero, List.set_cons_succ]
              refine wpAny_ready (rs := [14]) (by kernel_rfl) (by simp) ?_
              refine AllReady.cons rfl (fun K hK => ?_) AllReady.nil
              refine if_wanted rfl ?_
              refine wp_append_any _ (.tmp 43) (.tmp 51) 44 44 rfl b 30 i0 (.agg #[.int .u8 0, .int .i16 0, .int .i16 0]) 3 6 Tryd.underlying44 HI.out HZ0.out HZ1.out HZ2.out rfl (by decide) (.slice a zs.length c0) zs.length (zs.flatMap wcells) rfl ((HOW.out.alloc _).drew) _ 1 [.int .u8 k1, .int .i16 y1, .int .i16 n1] rfl (Src.ofSlice _ Tryd.underlying44 ⟨wb.heap.size, 0, none⟩ 1 1 _ rfl (three_cells wb _ k1 y1 n1) (by intro u hu; simp only [List.mem_cons, List.not_mem_nil, or_false] at hu; rcases hu with rfl | rfl | rfl <;> rfl)) (by unfold maxLen; omega) (by omega) (by have := HZ5.out; simp; omega) ?_
              intro v' w5 hown5 hg5 hblk5
              rw [ownBlock_slice] at hg5 hblk5
              have hown6 : w5.ownsRow b 30 3 v' (zs ++ [((k1, y1), n1)]).length ((zs ++ [((k1, y1), n1)]).flatMap wcells) := by rw [List.length_append, List.flatMap_append]; simpa [wcells] using hown5
              obtain ⟨A5, c5, rfl, -, -⟩ := own_rd wcells_length hown6
              rw [ownBlock_slice] at hblk5
              have hN6 := OwnN.put HN5.out HK.out HZk.out HBW.out hown6 hg5 hblk5
              rw [show (zs ++ [((k1, y1), n1)]).length = zs.length + 1 from by simp] at hN6
              have HN6 := Lib.hid hN6
              have e5 : w5.cell? ⟨g0, k, none⟩ = some (.slice a zs.length c0) := put_cell HN5.out HK.out HBW.out hg5 hc1
              have f5 : w5.frozen? ⟨g0, k, none⟩ = false := put_frozen HN5.out HK.out HBW.out hg5
              have HB6 : Hid (Below b W0 w5) := put_below HB5.out HOW.out hg5 (by have := HZ5.out; omega)
              clear hown5 hown6 hg5 hblk5 hN6
              refine hK _ _ ?_
              clear hK K
              try simp only [Act.put, List.getElem_toArray, List.getElem_cons_zero, List.getElem_cons_succ, List.setIfInBounds_toArray, List.set_cons_zero, List.set_cons_succ]
              refine wpAny_take (i := 15) (v := .pointer (some ⟨g0, k, none⟩)) rfl (by kernel_rfl) (by kernel_rfl) (by kernel_rfl) (fun _ _ _ h => h) (Or.inl ⟨by rfl, fun w' => by go_simp⟩) ?_
              try simp only [Act.put, List.getElem_toArray, List.getElem_cons_zero, List.getElem_cons_succ, List.setIfInBounds_toArray, List.set_cons_zero, List.set_cons_succ]
              refine wpAny_ready (rs := [16]) (by kernel_rfl) (by simp) ?_
              refine AllReady.cons rfl (fun K hK => ?_) AllReady.nil
              refine if_wanted rfl ?_
              go_simp
              refine hK _ _ ?_
              clear hK K
              try simp only [Act.put, List.getElem_toArray, List.getElem_cons_zero, List.getElem_cons_succ, List.setIfInBounds_toArray, List.set_cons_zero, List.set_cons_succ]
              refine wpAny_done (by kernel_rfl) ?_ _
              try simp only [Act.put, List.getElem_toArray, List.getElem_cons_zero, List.getElem_cons_succ, List.setIfInBounds_toArray, List.set_cons_zero, List.set_cons_succ]
              have hb6 : Below b W0 (w5.setCell ⟨g0, k, none⟩ (.slice A5 (zs.length + 1) c5)) := HB6.out.setCell (p := ⟨g0, k, none⟩) HG0.out _
              have hn6 := HN6.out
              obtain ⟨w6, hw6⟩ : ∃ u, w5.setCell ⟨g0, k, none⟩ (.slice A5 (zs.length + 1) c5) = u := ⟨_, rfl⟩
              rw [hw6] at hb6 hn6 ⊢
              have hsl : (hs.set k (A5, zs.length + 1, c5))[l]? = some (some ⟨g1, o1, none⟩, j + 1, cl) := by rw [List.getElem?_set_ne HTl.out]; exact HHl.out
              have hrl : (r.set k (zs ++ [((k1, y1), n1)]))[l]? = some (xs.take (xs.length - q)) := by rw [List.getElem?_set_ne HTl.out]; exact HO2.out
              obtain ⟨-, how7⟩ := hn6.2.2.1 l _ _ hsl hrl
              obtain ⟨b3, o3, e3, hb3, hrow3⟩ := (own_rd2 hcells_length hn6.1).at_ hcells_length hsl
              obtain ⟨rfl, rfl⟩ : g0 = b3 ∧ 0 = o3 := by simpa using e3
              have hel6 := rowH hrow3
              rw [Nat.zero_add] at hel6
              dsimp only at hel6 how7
              have hf6 : w6.frozen? ⟨g0, l, none⟩ = false := own_frozen hn6.1 l
              have how8 : w6.ownsRow b 30 3 (.slice (some ⟨g1, o1, none⟩) (xs.take (xs.length - q)).length cl) (xs.take (xs.length - q)).length ((xs.take (xs.length - q)).flatMap wcells) := by first | exact how7 | (rw [HTk.out]; first | exact how7 | (rw [HTk.out] at how7; exact how7))
              have hjc : (j : Int) ≤ (cl : Int) := by have := own_cap how8; rw [HTk.out] at this; omega
              have hN7 := OwnN.put hn6 hsl hrl (Below.refl _ w6) (own_shrink wcells_length how8 (m := j) (by rw [HTk.out]; omega)) (gk_refl w6 _) (.inl rfl)
              have hlt : (xs.take (xs.length - q)).take j = xs.take j := by rw [List.take_take, HJl.out, Nat.min_eq_left (Nat.le_succ j)]
              have hlj : (xs.take j).length = j := by rw [List.length_take]; omega
              rw [hlt, hlj] at hN7
              have HN7 := Lib.hid hN7
              have HB7 : Hid (Below b W0 (w6.setCell ⟨g0, l, none⟩ (.slice (some ⟨g1, o1, none⟩) j cl))) := hb6.setCell (p := ⟨g0, l, none⟩) HG0.out _
              clear hw6 hb6 hn6 hsl hrl how7 how8 hrow3 e3 hN7 hlt hlj e5 f5 HN6 HB6 hc1 hcW2 d0 d1 d2 hel hb3
              go_wp2
              go_roundw
              case rel => exact ⟨q + 1, _, _, HM1.out, by first | rfl | go_num, HSt.out, HN7.out, HB7.out⟩
              case measure => have := HM2.out; simp [intOf]; omega
            · skip
              refine if_wanted rfl ?_
              go_simp
              refine hK _ _ ?_
              clear hK K
              try simp only [Act.put, List.getElem_toArray, List.getElem_cons_zero, List.getElem_cons_succ, List.setIfInBounds_toArray, List.set_cons_zero, List.set_cons_succ]
              refine wpAny_ready (rs := [5]) (by kernel_rfl) (by simp) ?_
              refine AllReady.cons rfl (fun K hK => ?_) AllReady.nil
              refine if_wanted rfl ?_
              go_simp
              refine hK _ _ ?_
              clear hK K
              try simp only [Act.put, List.getElem_toArray, List.getElem_cons_zero, List.getElem_cons_succ, List.setIfInBounds_toArray, List.set_cons_zero, List.set_cons_succ]
              refine wpAny_ready (rs := [14]) (by kernel_rfl) (by simp) ?_
              refine AllReady.cons rfl (fun K hK => ?_) AllReady.nil
              refine if_wanted rfl ?_
              refine wp_append_any _ (.tmp 43) (.tmp 51) 44 44 rfl b 30 i0 (.agg #[.int .u8 0, .int .i16 0, .int .i16 0]) 3 6 Tryd.underlying44 HI.out HZ0.out HZ1.out HZ2.out rfl (by decide) (.slice a zs.length c0) zs.length (zs.flatMap wcells) rfl ((HOW.out.alloc _).drew) _ 1 [.int .u8 k1, .int .i16 y1, .int .i16 n1] rfl (Src.ofSlice _ Tryd.underlying44 ⟨wb.heap.size, 0, none⟩ 1 1 _ rfl (three_cells wb _ k1 y1 n1) (by intro u hu; simp only [List.mem_cons, List.not_mem_nil, or_false] at hu; rcases hu with rfl | rfl | rfl <;> rfl)) (by unfold maxLen; omega) (by omega) (by have := HZ5.out; simp; omega) ?_
              intro v' w5 hown5 hg5 hblk5
              rw [ownBlock_slice] at hg5 hblk5
              have hown6 : w5.ownsRow b 30 3 v' (zs ++ [((k1, y1), n1)]).length ((zs ++ [((k1, y1), n1)]).flatMap wcells) := by rw [List.length_append, List.flatMap_append]; simpa [wcells] using hown5
              obtain ⟨A5, c5, rfl, -, -⟩ := own_rd wcells_length hown6
              rw [ownBlock_slice] at hblk5
              have hN6 := OwnN.put HN5.out HK.out HZk.out HBW.out hown6 hg5 hblk5
              rw [show (zs ++ [((k1, y1), n1)]).length = zs.length + 1 from by simp] at hN6
              have HN6 := Lib.hid hN6
              have e5 : w5.cell? ⟨g0, k, none⟩ = some (.slice a zs.length c0) := put_cell HN5.out HK.out HBW.out hg5 hc1
              have f5 : w5.frozen? ⟨g0, k, none⟩ = false := put_frozen HN5.out HK.out HBW.out hg5
              have HB6 : Hid (Below b W0 w5) := put_below HB5.out HOW.out hg5 (by have := HZ5.out; omega)
              clear hown5 hown6 hg5 hblk5 hN6
              refine hK _ _ ?_
              clear hK K
              try simp only [Act.put, List.getElem_toArray, List.getElem_cons_zero, List.getElem_cons_succ, List.setIfInBounds_toArray, List.set_cons_zero, List.set_cons_succ]
              refine wpAny_take (i := 15) (v := .pointer (some ⟨g0, k, none⟩)) rfl (by kernel_rfl) (by kernel_rfl) (by kernel_rfl) (fun _ _ _ h => h) (Or.inl ⟨by rfl, fun w' => by go_simp⟩) ?_
              try simp only [Act.put, List.getElem_toArray, List.getElem_cons_zero, List.getElem_cons_succ, List.setIfInBounds_toArray, List.set_cons_zero, List.set_cons_succ]
              refine wpAny_ready (rs := [16]) (by kernel_rfl) (by simp) ?_
              refine AllReady.cons rfl (fun K hK => ?_) AllReady.nil
              refine if_wanted rfl ?_
              go_simp
              refine hK _ _ ?_
              clear hK K
              try simp only [Act.put, List.getElem_toArray, List.getElem_cons_zero, List.getElem_cons_succ, List.setIfInBounds_toArray, List.set_cons_zero, List.set_cons_succ]
              refine wpAny_done (by kernel_rfl) ?_ _
              try simp only [Act.put, List.getElem_toArray, List.getElem_cons_zero, List.getElem_cons_succ, List.setIfInBounds_toArray, List.set_cons_zero, List.set_cons_succ]
              have hb6 : Below b W0 (w5.setCell ⟨g0, k, none⟩ (.slice A5 (zs.length + 1) c5)) := HB6.out.setCell (p := ⟨g0, k, none⟩) HG0.out _
              have hn6 := HN6.out
              obtain ⟨w6, hw6⟩ : ∃ u, w5.setCell ⟨g0, k, none⟩ (.slice A5 (zs.length + 1) c5) = u := ⟨_, rfl⟩
              rw [hw6] at hb6 hn6 ⊢
              have hsl : (hs.set k (A5, zs.length + 1, c5))[l]? = some (some ⟨g1, o1, none⟩, j + 1, cl) := by rw [List.getElem?_set_ne HTl.out]; exact HHl.out
              have hrl : (r.set k (zs ++ [((k1, y1), n1)]))[l]? = some (xs.take (xs.length - q)) := by rw [List.getElem?_set_ne HTl.out]; exact HO2.out
              obtain ⟨-, how7⟩ := hn6.2.2.1 l _ _ hsl hrl
              obtain ⟨b3, o3, e3, hb3, hrow3⟩ := (own_rd2 hcells_length hn6.1).at_ hcells_length hsl
              obtain ⟨rfl, rfl⟩ : g0 = b3 ∧ 0 = o3 := by simpa using e3
              have hel6 := rowH hrow3
              rw [Nat.zero_add] at hel6
              dsimp only at hel6 how7
              have hf6 : w6.frozen? ⟨g0, l, none⟩ = false := own_frozen hn6.1 l
              have how8 : w6.ownsRow b 30 3 (.slice (some ⟨g1, o1, none⟩) (xs.take (xs.length - q)).length cl) (xs.take (xs.length - q)).length ((xs.take (xs.length - q)).flatMap wcells) := by first | exact how7 | (rw [HTk.out]; first | exact how7 | (rw [HTk.out] at how7; exact how7))
              have hjc : (j : Int) ≤ (cl : Int) := by have := own_cap how8; rw [HTk.out] at this; omega
              have hN7 := OwnN.put hn6 hsl hrl (Below.refl _ w6) (own_shrink wcells_length how8 (m := j) (by rw [HTk.out]; omega)) (gk_refl w6 _) (.inl rfl)
              have hlt : (xs.take (xs.length - q)).take j = xs.take j := by rw [List.take_take, HJl.out, Nat.min_eq_left (Nat.le_succ j)]
              have hlj : (xs.take j).length = j := by rw [List.length_take]; omega
              rw [hlt, hlj] at hN7
              have HN7 := Lib.hid hN7
              have HB7 : Hid (Below b W0 (w6.setCell ⟨g0, l, none⟩ (.slice (some ⟨g1, o1, none⟩) j cl))) := hb6.setCell (p := ⟨g0, l, none⟩) HG0.out _
              clear hw6 hb6 hn6 hsl hrl how7 how8 hrow3 e3 hN7 hlt hlj e5 f5 HN6 HB6 hc1 hcW2 d0 d1 d2 hel hb3
              go_wp2
              go_roundw
              case rel => exact ⟨q + 1, _, _, HM1.out, by first | rfl | go_num, HSt.out, HN7.out, HB7.out⟩
              case measure => have := HM2.out; simp [intOf]; omega
    · have hij2 : ¬ (i : Int) < (j : Int) := by omega
      obtain rfl : i = j := by have := HQ.out; have := HJ.out; omega
      have hqi : xs.length - 1 - i = q := by have := HQ.out; have := HJ.out; omega
      have HE := Lib.hid (rcB_yes (i := i) (by rw [hqi]; exact HRr.out) HXj.out)
      have HQi := Lib.hid hqi
      have hi0 : (0 : Int) ≤ (i : Int) := Int.natCast_nonneg _
      have hi1 : (i : Int) < ((i + 1 : Nat) : Int) := by omega
      have hi9 : ¬ (i : Int) + 1 ≤ (i : Int) := by omega
      have how8 : wa.ownsRow b 30 3 (.slice (some ⟨g1, o1, none⟩) (xs.take (xs.length - q)).length cl) (xs.take (xs.length - q)).length ((xs.take (xs.length - q)).flatMap wcells) := by first | exact HOwl.out | (rw [HTk.out]; exact HOwl.out)
      have hicl : (i : Int) ≤ (cl : Int) := by have := own_cap how8; rw [HTk.out] at this; omega
      have hA5 : Below wa.heap.size wa (wa.alloc (.cells #[.int .u8 k1, .int .i16 y1, .int .i16 n1] 30)) := (Below.refl _ wa).alloc (Nat.le_refl _) _
      have hK5 : Blk (wa.alloc (.cells #[.int .u8 k1, .int .i16 y1, .int .i16 n1] 30)) wa.heap.size 30 #[.int .u8 k1, .int .i16 y1, .int .i16 n1] := Blk.new wa _ _
      obtain ⟨W5, hW5⟩ : ∃ W5, wa.alloc (.cells #[.int .u8 k1, .int .i16 y1, .int .i16 n1] 30) = W5 := ⟨_, rfl⟩
      rw [hW5] at hA5 hK5
      have hN5 := HN.out.keep hA5
      have hC5 : Blk W5 w.heap.size 30 #[.int .u8 0, .int .i16 0, .int .i16 0] := (H1.out.keep (by rw [← HLb.out]; exact HB.out)).keep hA5
      have hb5 : Below w.heap.size w W5 := H2.out.trans ((HB.out.trans (hA5.mono (by rw [HLb.out]; exact HB.out.size))).mono (Nat.le_of_lt HLB.out))
      have hel : W5.cell? ⟨g0, l, none⟩ = some (.slice (some ⟨g1, o1, none⟩) (i + 1) cl) := (hA5.cell (p := ⟨g0, l, none⟩) hb0).trans HCl.out
      have hf : W5.frozen? ⟨g0, l, none⟩ = false := own_frozen hN5.1 l
      have how9 := own_keep' how8 hA5
      have hN2 := OwnN.put hN5 HHl.out HO2.out (Below.refl _ W5) (own_shrink wcells_length how9 (m := i) (by rw [HTk.out]; omega)) (gk_refl W5 _) (.inl rfl)
      have hlt : (xs.take (xs.length - q)).take i = xs.take i := by rw [List.take_take, Nat.min_eq_left (by have := HJ.out; omega)]
      have hlj : (xs.take i).length = i := by rw [List.length_take]; omega
      rw [hlt, hlj] at hN2
      have hg0b : b ≤ g0 ∧ g0 < wa.heap.size := own_block HN.out.1 rfl
      have hne0 : g0 ≠ wa.heap.size := by omega
      have hne1 : g0 ≠ w.heap.size := by have := HLB.out; omega
      have hne2 : wa.heap.size ≠ w.heap.size := by have := HLB.out; omega
      have hK6 : Blk (W5.setCell ⟨g0, l, none⟩ (.slice (some ⟨g1, o1, none⟩) i cl)) wa.heap.size 30 #[.int .u8 k1, .int .i16 y1, .int .i16 n1] := hK5.far (p := ⟨g0, l, none⟩) (fun e => hne0 e.symm) _
      have hC6 : Blk (W5.setCell ⟨g0, l, none⟩ (.slice (some ⟨g1, o1, none⟩) i cl)) w.heap.size 30 #[.int .u8 0, .int .i16 0, .int .i16 0] := hC5.far (p := ⟨g0, l, none⟩) (fun e => hne1 e.symm) _
      have hb6 : Below w.heap.size w (W5.setCell ⟨g0, l, none⟩ (.slice (some ⟨g1, o1, none⟩) i cl)) := hb5.setCell (p := ⟨g0, l, none⟩) (by have := HLB.out; show _ ≤ g0; omega) _
      have HN2 := Lib.hid hN2
      have HK6 := Lib.hid hK6
      have HC6 := Lib.hid hC6
      have HB6 := Lib.hid hb6
      have HLq : Hid ((q : Nat) = q) := rfl
      obtain ⟨p1, p2, p3⟩ := HP.out
      have hcl := HCl.out
      clear hqi how8 hN5 hC5 hb5 how9 hN2 hlt hlj hK6 hC6 hb6 hK5 hA5 hg0b hne2
      go_wp2_with fail
      clear p1 p2 p3 hcl hel hf hW5
      have hW : (W5.setCell ⟨g0, l, none⟩ (.slice (some ⟨g1, o1, none⟩) i cl)).heap.size = W5.heap.size := by simp
      obtain ⟨W6, hW6⟩ : ∃ W6, W5.setCell ⟨g0, l, none⟩ (.slice (some ⟨g1, o1, none⟩) i cl) = W6 := ⟨_, rfl⟩
      rw [hW6] at HN2 HK6 HC6 HB6 ⊢
      clear hW6 hW
      have e0 : W6.cell? ⟨wa.heap.size, 0, none⟩ = some (.int .u8 k1) := HK6.out.cell 0
      have e1 : W6.cell? ⟨wa.heap.size, 1, none⟩ = some (.int .i16 y1) := HK6.out.cell 1
      have e2 : W6.cell? ⟨wa.heap.size, 2, none⟩ = some (.int .i16 n1) := HK6.out.cell 2
      have d0 : W6.cell? ⟨w.heap.size, 0, none⟩ = some (.int .u8 0) := HC6.out.cell 0
      have d1 : W6.cell? ⟨w.heap.size, 1, none⟩ = some (.int .i16 0) := HC6.out.cell 1
      have d2 : W6.cell? ⟨w.heap.size, 2, none⟩ = some (.int .i16 0) := HC6.out.cell 2
      have f0 : W6.frozen? ⟨w.heap.size, 0, none⟩ = false := HC6.out.frozen 0
      have f1 : W6.frozen? ⟨w.heap.size, 1, none⟩ = false := HC6.out.frozen 1
      have f2 : W6.frozen? ⟨w.heap.size, 2, none⟩ = false := HC6.out.frozen 2
      have hd1 : w.heap.size ≠ wa.heap.size := by have := HLB.out; have := HB.out.size; have := HLb.out; omega
      have hd2 : wa.heap.size ≠ w.heap.size := fun e => hd1 e.symm
      have hlt : ∀ k, k = w.heap.size → k < b := fun k e => by have := HLB.out; omega
      have HN4 := Lib.hid ((((HN2.out.only (only_set W6 w.heap.size 0 (.int .u8 k1)) hlt).only (only_set _ w.heap.size 1 (.int .i16 y1)) hlt).only (only_set _ w.heap.size 2 (.int .i16 n1)) hlt).keep ((Below.refl _ _).drew))
      have HB4 : Hid (Below w.heap.size w (((W6.setCell ⟨w.heap.size, 0, none⟩ (.int .u8 k1)).setCell ⟨w.heap.size, 1, none⟩ (.int .i16 y1)).setCell ⟨w.heap.size, 2, none⟩ (.int .i16 n1)).drew) := ((((HB6.out).setCell (p := ⟨w.heap.size, 0, none⟩) (Nat.le_refl _) _).setCell (p := ⟨w.heap.size, 1, none⟩) (Nat.le_refl _) _).setCell (p := ⟨w.heap.size, 2, none⟩) (Nat.le_refl _) _).drew
      have HLr : Hid (xss.length = r.length) := HO1.out.symm
      clear hlt HN2 HB6 HK6 HC6 hne0 hne1
      go_region
      go_wp2
      try simp only [Exit.inBlock, Exit.then]
      refine bodyPost_ret (v := .tuple #[.slice (some ⟨g0, 0, none⟩) xss.length cm, .agg #[.int .u8 k1, .int .i16 y1, .int .i16 n1], .int .i64 q, .int .i64 0]) (by simp [results, Tryd.results38, go_sem, *]) rfl ?_
      exact ⟨_, _, by (rw [HE.out.1, HE.out.2.1, HE.out.2.2.1, HE.out.2.2.2, HQi.out, List.length_set, ← HLr.out]; rfl), by rw [HE.out.1]; exact .inr ⟨_, HN4.out.base (Nat.le_of_lt HLB.out)⟩, HB4.out⟩

end Go.Proofs.YtmfdgpinohbckaaDoor
