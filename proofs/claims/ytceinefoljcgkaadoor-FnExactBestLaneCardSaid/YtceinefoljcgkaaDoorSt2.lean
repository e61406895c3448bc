/-
  The contracts of StoreAt, of the model and of the program. Condition: the rack reads as lists of things that are stored, whose numbers fit their kinds, not more than 1048576; the sentinel errors lie as the row lists them (the program's).
-/
import Derived.Test.YtceinefoljcgkaaDoorSt1
import Derived.Test.YtceinefoljcgkaaDoorAh
import Derived.Test.YtceinefoljcgkaaDoorFn
namespace Go.Proofs.YtceinefoljcgkaaDoor
open Go.ChangeShapes Go.WideShapes Go.ChangeAt Go.RowKit Go.Deep

/-- The code of StoreAt; the rack that it answers. -/
def stC (xss : List (List Wnt)) (l : Int) (x : Wnt) : Int := if (rkOk xss && sV x) = true then (if inB l xss.length = true then (if (lnAt xss l).length = 6 then 3 else 0) else 2) else 1
def stL (xss : List (List Wnt)) (l : Int) (x : Wnt) : List (List Wnt) := if stC xss l x = 0 then xss.set l.toNat (lnAt xss l ++ [x]) else []
theorem stL_no {xss : List (List Wnt)} {l : Int} {x : Wnt} (h : stC xss l x ≠ 0) : stL xss l x = [] := by rw [stL, if_neg h]
theorem stL_yes {xss : List (List Wnt)} {k : Nat} {x : Wnt} (h : stC xss k x = 0) : stL xss k x = xss.set k (lnAt xss k ++ [x]) := by rw [stL, if_pos h]; rfl
theorem rdN_nil {T : Type} (w : World) (B : Nat) (cells : T → List Value) (A : Option Addr) : RdN w B cells A ([] : List (List T)) := ⟨[], rfl, fun h => absurd h (by simp), fun i h xs h1 => by simp at h1⟩
theorem wcells_range {w : World} {B : Nat} {t : TypeId} {k1 y1 n1 : Int} (h : Blk w B t #[.int .u8 k1, .int .i16 y1, .int .i16 n1]) : w.rangeAt B 0 (wcells ((k1, y1), n1)) := fun j v hv => by
  rw [Nat.zero_add, h.cell]; simpa [wcells] using hv

set_option maxRecDepth 100000 in
set_option maxHeartbeats 4000000 in
theorem specStoreAt_any (xss : List (List Wnt)) (hwf : ∀ xs ∈ xss, ∀ x ∈ xs, wfW x) (x : Wnt) (hwx : wfW x) (A : Option Addr) (c : Nat) (l : Int) (w : World) (hl : xss.length ≤ 1048576) (hx : ∀ xs ∈ xss, xs.length ≤ 1048576) (hr : RdN w w.heap.size wcells A xss) :
    Calls Tryd.prog 22 #[.slice A xss.length c, .int .i64 l, .agg (wcells x).toArray] w fun e w' => ∃ A' c', e = .returned (.tuple #[.slice A' (stL xss l x).length c', .int .i64 (stC xss l x)]) ∧ RdN w' w'.heap.size wcells A' (stL xss l x) ∧ Below w.heap.size w w' := by
  obtain ⟨⟨k1, y1⟩, n1⟩ := x
  show Calls Tryd.prog 22 #[.slice A xss.length c, .int .i64 l, .agg #[.int .u8 k1, .int .i16 y1, .int .i16 n1]] w _
  obtain ⟨i0, hi, hz0, hz1, hz2⟩ := info_parts Tryd.infoTI
  have HI := Lib.hid hi
  have HZ0 := Lib.hid hz0
  have HZ1 := Lib.hid hz1
  have HZ2 := Lib.hid hz2
  clear hi hz0 hz1 hz2
  have HR := Lib.hid hr
  have HW := Lib.hid hwf
  have HX := Lib.hid hx
  have HWX := Lib.hid hwx
  clear hr hwf hx hwx
  have h1 : Blk (w.alloc (.cells #[.int .u8 k1, .int .i16 y1, .int .i16 n1] 45)) w.heap.size 45 #[.int .u8 k1, .int .i16 y1, .int .i16 n1] := Blk.new w _ _
  have h2 : Below w.heap.size w (w.alloc (.cells #[.int .u8 k1, .int .i16 y1, .int .i16 n1] 45)) := (Below.refl _ w).alloc (Nat.le_refl _) _
  obtain ⟨W0, hW0⟩ : ∃ W0, w.alloc (.cells #[.int .u8 k1, .int .i16 y1, .int .i16 n1] 45) = W0 := ⟨_, rfl⟩
  rw [hW0] at h1 h2
  have H1 := Lib.hid h1
  have H2 := Lib.hid h2
  clear h1 h2
  go_enter Tryd.func22, Tryd.ntmps22
  go_wp2_with fail
  clear hW0
  refine (l04Ok_any xss HW.out A c _ hl HX.out (HR.out.keep H2.out)).mono ?_
  rintro e w1 ⟨rfl, hb⟩
  have J1 : Hid (Blk w1 w.heap.size 45 #[.int .u8 k1, .int .i16 y1, .int .i16 n1]) := H1.out.keep hb
  have J2 : Hid (Below w.heap.size w w1) := H2.out.trans (hb.mono H2.out.size)
  clear hb H1 H2
  cases hv : rkOk xss
  · have hc : stC xss l ((k1, y1), n1) = 1 := by simp [stC, hv]
    have E1 := Lib.hid hc
    have E2 := Lib.hid (stL_no (xss := xss) (l := l) (x := ((k1, y1), n1)) (by omega))
    clear hv hc
    go_wp2
    go_ret2
    exact ⟨_, _, by (rw [E1.out, E2.out]; first | done | rfl), by rw [E2.out]; exact rdN_nil _ _ _ _, J2.out.alloc J2.out.size _⟩
  have HV := Lib.hid hv
  clear hv
  go_wp2_with fail
  refine (l04Stored_any ((k1, y1), n1) HWX.out w.heap.size 0 _ J1.out.lt (wcells_range J1.out)).mono ?_
  rintro e w2 ⟨rfl, hb⟩
  have K1 : Hid (Blk w2 w.heap.size 45 #[.int .u8 k1, .int .i16 y1, .int .i16 n1]) := J1.out.keep hb
  have K2 : Hid (Below w.heap.size w w2) := J2.out.trans (hb.mono J2.out.size)
  clear hb J1 J2
  cases hs : sV ((k1, y1), n1)
  · have hc : stC xss l ((k1, y1), n1) = 1 := by simp [stC, hs]
    have E1 := Lib.hid hc
    have E2 := Lib.hid (stL_no (xss := xss) (l := l) (x := ((k1, y1), n1)) (by omega))
    clear hs hc
    go_wp2
    go_ret2
    exact ⟨_, _, by (rw [E1.out, E2.out]; first | done | rfl), by rw [E2.out]; exact rdN_nil _ _ _ _, K2.out.alloc K2.out.size _⟩
  have HSv := Lib.hid hs
  clear hs
  go_wp2_with fail
  refine (l04Lane_any xss.length c A l _ hl).mono ?_
  rintro e w3 ⟨rfl, rfl⟩
  cases hi : inB l xss.length
  · have hc : stC xss l ((k1, y1), n1) = 2 := by simp [stC, HV.out, HSv.out, hi]
    have E1 := Lib.hid hc
    have E2 := Lib.hid (stL_no (xss := xss) (l := l) (x := ((k1, y1), n1)) (by omega))
    clear hi hc
    go_wp2
    go_ret2
    exact ⟨_, _, by (rw [E1.out, E2.out]; first | done | rfl), by rw [E2.out]; exact rdN_nil _ _ _ _, K2.out.alloc K2.out.size _⟩
  obtain ⟨k, rfl, hk⟩ := inB_nat hi
  have HI1 := Lib.hid hi
  clear hi
  obtain ⟨xs, hxs⟩ : ∃ xs, lnAt xss k = xs := ⟨_, rfl⟩
  have hxk := lnAt_nat hk
  rw [hxs] at hxk
  have HXs := Lib.hid hxs
  have HXk := Lib.hid hxk
  obtain ⟨b, o, a0, c', rfl, hb, hc, -⟩ := (HR.out.keep K2.out).at_ hxk
  have hxl := HX.out xs (List.mem_of_getElem? hxk)
  have hk0 : (0 : Int) ≤ (k : Int) := Int.natCast_nonneg _
  have hk8 : (k : Int) < xss.length := by omega
  clear hxk hxs
  by_cases h6 : xs.length = 6
  · have h6' : (xs.length : Int) = 6 := by omega
    have hcd : stC xss k ((k1, y1), n1) = 3 := by simp [stC, HV.out, HSv.out, HI1.out, HXs.out, h6]
    have E1 := Lib.hid hcd
    have E2 := Lib.hid (stL_no (xss := xss) (l := (k : Int)) (x := ((k1, y1), n1)) (by omega))
    clear hcd h6
    go_wp2
    go_ret2
    exact ⟨_, _, by (rw [E1.out, E2.out]; first | done | rfl), by rw [E2.out]; exact rdN_nil _ _ _ _, K2.out.alloc K2.out.size _⟩
  have h6' : ((xs.length : Int) == 6) = false := by simp; omega
  have hcd : stC xss k ((k1, y1), n1) = 0 := by simp [stC, HV.out, HSv.out, HI1.out, HXs.out, h6]
  have E1 := Lib.hid hcd
  have E2 : Hid (stL xss k ((k1, y1), n1) = xss.set k (xs ++ [((k1, y1), n1)])) := by
    show stL xss k ((k1, y1), n1) = _
    rw [stL_yes hcd, HXs.out]
  clear hcd h6
  go_wp2_with fail
  clear hc hb
  refine (l04Own_any xss _ c _ hl HX.out (HR.out.keep K2.out)).mono ?_
  rintro e w4 ⟨A1, c1, hs, rfl, hN, hb4⟩
  have hlen : hs.length = xss.length := hN.2.1
  obtain ⟨⟨a, m, c0⟩, hhk⟩ : ∃ h, hs[k]? = some h := ⟨_, List.getElem?_eq_getElem (by omega)⟩
  obtain ⟨em, how⟩ := hN.2.2.1 k _ xs hhk HXk.out
  dsimp only at em how
  subst em
  obtain ⟨b0, o0, e0, hb0, hrow⟩ := (own_rd2 hcells_length hN.1).at_ hcells_length hhk
  obtain ⟨g0, rfl⟩ : ∃ g, A1 = some ⟨g, 0, none⟩ := by
    rcases hN.1.2 with ⟨e, -⟩ | ⟨g, cap, cur, hv, -⟩
    · rw [e0] at e; cases e
    · exact ⟨g, (Value.slice.inj hv).1⟩
  obtain ⟨rfl, rfl⟩ : g0 = b0 ∧ 0 = o0 := by simpa using e0
  have hc1 := rowH hrow
  rw [Nat.zero_add] at hc1
  dsimp only at hc1
  have HN := Lib.hid hN
  have HK := Lib.hid hhk
  have HB4 : Hid (Below w.heap.size w w4) := K2.out.trans (hb4.mono K2.out.size)
  have HC4 : Hid (Blk w4 w.heap.size 45 #[.int .u8 k1, .int .i16 y1, .int .i16 n1]) := K1.out.keep hb4
  have HOW := Lib.hid how
  have HSz : Hid (w2.heap.size ≤ w4.heap.size) := hb4.size
  have HSy : Hid (w.heap.size ≤ w2.heap.size) := K2.out.size
  have HBW : Hid (Below w4.heap.size w4 (w4.alloc (.cells #[.int .u8 k1, .int .i16 y1, .int .i16 n1] 45)).drew) := ((Below.refl _ w4).alloc (Nat.le_refl _) _).drew
  have hcW2 : (w4.alloc (.cells #[.int .u8 k1, .int .i16 y1, .int .i16 n1] 45)).cell? ⟨g0, k, none⟩ = some (.slice a xs.length c0) := (((Below.refl w4.heap.size w4).alloc (Nat.le_refl _) _).cell (p := ⟨g0, k, none⟩) hb0).trans hc1
  have d0 : w4.cell? ⟨w.heap.size, 0, none⟩ = some (.int .u8 k1) := HC4.out.cell 0
  have d1 : w4.cell? ⟨w.heap.size, 1, none⟩ = some (.int .i16 y1) := HC4.out.cell 1
  have d2 : w4.cell? ⟨w.heap.size, 2, none⟩ = some (.int .i16 n1) := HC4.out.cell 2
  clear hN hhk hb4 how hrow e0 K1
  rw [← hlen] at hk8
  have HLen := Lib.hid hlen
  rw [← hlen]
  clear hlen
  go_wp2_with fail
  refine wp_region_any (by kernel_rfl) ?_
  try (change wpAny _ _ _ _ _ _ _ (World.drew _))
  refine wpAny_take (i := 0) (v := .slice (some ⟨g0, 0, none⟩) hs.length c1) rfl (by kernel_rfl) (by kernel_rfl) (by kernel_rfl) (fun _ _ _ h => h) (Or.inl ⟨by rfl, fun w' => by go_simp⟩) ?_
  try simp only [Act.put, List.getElem_toArray, List.getElem_cons_zero, List.getElem_cons_succ, List.setIfInBounds_toArray, List.set_cons_zero, List.set_cons_succ]
  refine wpAny_take (i := 1) (v := .int .i64 k) rfl (by kernel_rfl) (by kernel_rfl) (by kernel_rfl) (fun _ _ _ h => h) (Or.inl ⟨by rfl, fun w' => by go_simp⟩) ?_
  try simp only [Act.put, List.getElem_toArray, List.getElem_cons_zero, List.getElem_cons_succ, List.setIfInBounds_toArray, List.set_cons_zero, List.set_cons_succ]
  refine wpAny_take (i := 2) (v := .slice (some ⟨g0, 0, none⟩) hs.length c1) rfl (by kernel_rfl) (by kernel_rfl) (by kernel_rfl) (fun _ _ _ h => h) (Or.inl ⟨by rfl, fun w' => by go_simp⟩) ?_
  try simp only [Act.put, List.getElem_toArray, List.getElem_cons_zero, List.getElem_cons_succ, List.setIfInBounds_toArray, List.set_cons_zero, List.set_cons_succ]
  refine wpAny_take (i := 3) (v := .int .i64 k) rfl (by kernel_rfl) (by kernel_rfl) (by kernel_rfl) (fun _ _ _ h => h) (Or.inl ⟨by rfl, fun w' => by go_simp⟩) ?_
  try simp only [Act.put, List.getElem_toArray, List.getElem_cons_zero, List.getElem_cons_succ, List.setIfInBounds_toArray, List.set_cons_zero, List.set_cons_succ]
  refine wpAny_take (i := 4) (v := .pointer (some ⟨g0, k, none⟩)) rfl (by kernel_rfl) (by kernel_rfl) (by kernel_rfl) (fun _ _ _ h => h) (Or.inl ⟨by rfl, fun w' => by go_simp⟩) ?_
  try simp only [Act.put, List.getElem_toArray, List.getElem_cons_zero, List.getElem_cons_succ, List.setIfInBounds_toArray, List.set_cons_zero, List.set_cons_succ]
  refine wpAny_ready (rs := [5, 6]) (by kernel_rfl) (by simp) ?_
  refine AllReady.cons rfl (fun K hK => ?_) (AllReady.cons rfl (fun K hK => ?_) AllReady.nil)
  · skip
    refine if_wanted rfl ?_
    go_simp
    refine hK _ _ ?_
    clear hK K
    try simp only [Act.put, List.getElem_toArray, List.getElem_cons_zero, List.getElem_cons_succ, List.setIfInBounds_toArray, List.set_cons_zero, List.set_cons_succ]
    refine wpAny_ready (rs := [6]) (by kernel_rfl) (by simp) ?_
    refine AllReady.cons rfl (fun K hK => ?_) AllReady.nil
    refine if_wanted rfl ?_
    go_simp
    refine hK _ _ ?_
    clear hK K
    try simp only [Act.put, List.getElem_toArray, List.getElem_cons_zero, List.getElem_cons_succ, List.setIfInBounds_toArray, List.set_cons_zero, List.set_cons_succ]
    refine wpAny_ready (rs := [7]) (by kernel_rfl) (by simp) ?_
    refine AllReady.cons rfl (fun K hK => ?_) AllReady.nil
    refine if_wanted rfl ?_
    go_simp
    refine hK _ _ ?_
    clear hK K
    try simp only [Act.put, List.getElem_toArray, List.getElem_cons_zero, List.getElem_cons_succ, List.setIfInBounds_toArray, List.set_cons_zero, List.set_cons_succ]
    refine wpAny_ready (rs := [8]) (by kernel_rfl) (by simp) ?_
    refine AllReady.cons rfl (fun K hK => ?_) AllReady.nil
    refine if_wanted rfl ?_
    refine wp_append_any _ (.tmp 39) (.tmp 41) 59 59 rfl w2.heap.size 45 i0 (.agg #[.int .u8 0, .int .i16 0, .int .i16 0]) 3 6 Tryd.underlying59 HI.out HZ0.out HZ1.out HZ2.out rfl (by decide) (.slice a xs.length c0) xs.length (xs.flatMap wcells) rfl ((HOW.out.alloc _).drew) _ 1 [.int .u8 k1, .int .i16 y1, .int .i16 n1] rfl (Src.ofSlice _ Tryd.underlying59 ⟨w4.heap.size, 0, none⟩ 1 1 _ rfl (three_cells w4 _ k1 y1 n1) (by intro u hu; simp only [List.mem_cons, List.not_mem_nil, or_false] at hu; rcases hu with rfl | rfl | rfl <;> rfl)) (by unfold maxLen; omega) (by omega) (by have := HSz.out; simp; omega) ?_
    intro v' w5 hown5 hg5 hblk5
    rw [ownBlock_slice] at hg5 hblk5
    have hown6 : w5.ownsRow w2.heap.size 45 3 v' (xs ++ [((k1, y1), n1)]).length ((xs ++ [((k1, y1), n1)]).flatMap wcells) := by rw [List.length_append, List.flatMap_append]; simpa [wcells] using hown5
    obtain ⟨A5, c5, rfl, -, -⟩ := own_rd wcells_length hown6
    rw [ownBlock_slice] at hblk5
    have hN5 := OwnN.put HN.out HK.out HXk.out HBW.out hown6 hg5 hblk5
    rw [show (xs ++ [((k1, y1), n1)]).length = xs.length + 1 from by simp] at hN5
    have HN5 := Lib.hid hN5
    have e5 : w5.cell? ⟨g0, k, none⟩ = some (.slice a xs.length c0) := put_cell HN.out HK.out HBW.out hg5 hc1
    have f5 : w5.frozen? ⟨g0, k, none⟩ = false := put_frozen HN.out HK.out HBW.out hg5
    have HB5 : Hid (Below w.heap.size w w5) := put_below HB4.out (own_base HOW.out HSy.out) hg5 (by have := HSz.out; have := HSy.out; omega)
    clear hown5 hown6 hg5 hblk5 hN5
    refine hK _ _ ?_
    clear hK K
    try simp only [Act.put, List.getElem_toArray, List.getElem_cons_zero, List.getElem_cons_succ, List.setIfInBounds_toArray, List.set_cons_zero, List.set_cons_succ]
    refine wpAny_take (i := 9) (v := .pointer (some ⟨g0, k, none⟩)) rfl (by kernel_rfl) (by kernel_rfl) (by kernel_rfl) (fun _ _ _ h => h) (Or.inl ⟨by rfl, fun w' => by go_simp⟩) ?_
    try simp only [Act.put, List.getElem_toArray, List.getElem_cons_zero, List.getElem_cons_succ, List.setIfInBounds_toArray, List.set_cons_zero, List.set_cons_succ]
    refine wpAny_ready (rs := [10]) (by kernel_rfl) (by simp) ?_
    refine AllReady.cons rfl (fun K hK => ?_) AllReady.nil
    refine if_wanted rfl ?_
    go_simp
    refine hK _ _ ?_
    clear hK K
    try simp only [Act.put, List.getElem_toArray, List.getElem_cons_zero, List.getElem_cons_succ, List.setIfInBounds_toArray, List.set_cons_zero, List.set_cons_succ]
    refine wpAny_done (by kernel_rfl) ?_ _
    try simp only [Act.put, List.getElem_toArray, List.getElem_cons_zero, List.getElem_cons_succ, List.setIfInBounds_toArray, List.set_cons_zero, List.set_cons_succ]
    go_wp2
    go_ret2
    exact ⟨_, _, by (rw [E1.out, E2.out, List.length_set, ← HLen.out]; first | done | rfl), by rw [E2.out]; exact HN5.out.rd wcells_length, HB5.out.setCell (p := ⟨g0, k, none⟩) (by have hq : w2.heap.size ≤ g0 := (own_block HN.out.1 rfl).1; have := HSy.out; show w.heap.size ≤ g0; omega) _⟩
  · skip
    refine if_wanted rfl ?_
    go_simp
    refine hK _ _ ?_
    clear hK K
    try simp only [Act.put, List.getElem_toArray, List.getElem_cons_zero, List.getElem_cons_succ, List.setIfInBounds_toArray, List.set_cons_zero, List.set_cons_succ]
    refine wpAny_ready (rs := [5, 7]) (by kernel_rfl) (by simp) ?_
    refine AllReady.cons rfl (fun K hK => ?_) (AllReady.cons rfl (fun K hK => ?_) AllReady.nil)
    · skip
      refine if_wanted rfl ?_
      go_simp
      refine hK _ _ ?_
      clear hK K
      try simp only [Act.put, List.getElem_toArray, List.getElem_cons_zero, List.getElem_cons_succ, List.setIfInBounds_toArray, List.set_cons_zero, List.set_cons_succ]
      refine wpAny_ready (rs := [7]) (by kernel_rfl) (by simp) ?_
      refine AllReady.cons rfl (fun K hK => ?_) AllReady.nil
      refine if_wanted rfl ?_
      go_simp
      refine hK _ _ ?_
      clear hK K
      try simp only [Act.put, List.getElem_toArray, List.getElem_cons_zero, List.getElem_cons_succ, List.setIfInBounds_toArray, List.set_cons_zero, List.set_cons_succ]
      refine wpAny_ready (rs := [8]) (by kernel_rfl) (by simp) ?_
      refine AllReady.cons rfl (fun K hK => ?_) AllReady.nil
      refine if_wanted rfl ?_
      refine wp_append_any _ (.tmp 39) (.tmp 41) 59 59 rfl w2.heap.size 45 i0 (.agg #[.int .u8 0, .int .i16 0, .int .i16 0]) 3 6 Tryd.underlying59 HI.out HZ0.out HZ1.out HZ2.out rfl (by decide) (.slice a xs.length c0) xs.length (xs.flatMap wcells) rfl ((HOW.out.alloc _).drew) _ 1 [.int .u8 k1, .int .i16 y1, .int .i16 n1] rfl (Src.ofSlice _ Tryd.underlying59 ⟨w4.heap.size, 0, none⟩ 1 1 _ rfl (three_cells w4 _ k1 y1 n1) (by intro u hu; simp only [List.mem_cons, List.not_mem_nil, or_false] at hu; rcases hu with rfl | rfl | rfl <;> rfl)) (by unfold maxLen; omega) (by omega) (by have := HSz.out; simp; omega) ?_
      intro v' w5 hown5 hg5 hblk5
      rw [ownBlock_slice] at hg5 hblk5
      have hown6 : w5.ownsRow w2.heap.size 45 3 v' (xs ++ [((k1, y1), n1)]).length ((xs ++ [((k1, y1), n1)]).flatMap wcells) := by rw [List.length_append, List.flatMap_append]; simpa [wcells] using hown5
      obtain ⟨A5, c5, rfl, -, -⟩ := own_rd wcells_length hown6
      rw [ownBlock_slice] at hblk5
      have hN5 := OwnN.put HN.out HK.out HXk.out HBW.out hown6 hg5 hblk5
      rw [show (xs ++ [((k1, y1), n1)]).length = xs.length + 1 from by simp] at hN5
      have HN5 := Lib.hid hN5
      have e5 : w5.cell? ⟨g0, k, none⟩ = some (.slice a xs.length c0) := put_cell HN.out HK.out HBW.out hg5 hc1
      have f5 : w5.frozen? ⟨g0, k, none⟩ = false := put_frozen HN.out HK.out HBW.out hg5
      have HB5 : Hid (Below w.heap.size w w5) := put_below HB4.out (own_base HOW.out HSy.out) hg5 (by have := HSz.out; have := HSy.out; omega)
      clear hown5 hown6 hg5 hblk5 hN5
      refine hK _ _ ?_
      clear hK K
      try simp only [Act.put, List.getElem_toArray, List.getElem_cons_zero, List.getElem_cons_succ, List.setIfInBounds_toArray, List.set_cons_zero, List.set_cons_succ]
      refine wpAny_take (i := 9) (v := .pointer (some ⟨g0, k, none⟩)) rfl (by kernel_rfl) (by kernel_rfl) (by kernel_rfl) (fun _ _ _ h => h) (Or.inl ⟨by rfl, fun w' => by go_simp⟩) ?_
      try simp only [Act.put, List.getElem_toArray, List.getElem_cons_zero, List.getElem_cons_succ, List.setIfInBounds_toArray, List.set_cons_zero, List.set_cons_succ]
      refine wpAny_ready (rs := [10]) (by kernel_rfl) (by simp) ?_
      refine AllReady.cons rfl (fun K hK => ?_) AllReady.nil
      refine if_wanted rfl ?_
      go_simp
      refine hK _ _ ?_
      clear hK K
      try simp only [Act.put, List.getElem_toArray, List.getElem_cons_zero, List.getElem_cons_succ, List.setIfInBounds_toArray, List.set_cons_zero, List.set_cons_succ]
      refine wpAny_done (by kernel_rfl) ?_ _
      try simp only [Act.put, List.getElem_toArray, List.getElem_cons_zero, List.getElem_cons_succ, List.setIfInBounds_toArray, List.set_cons_zero, List.set_cons_succ]
      go_wp2
      go_ret2
      exact ⟨_, _, by (rw [E1.out, E2.out, List.length_set, ← HLen.out]; first | done | rfl), by rw [E2.out]; exact HN5.out.rd wcells_length, HB5.out.setCell (p := ⟨g0, k, none⟩) (by have hq : w2.heap.size ≤ g0 := (own_block HN.out.1 rfl).1; have := HSy.out; show w.heap.size ≤ g0; omega) _⟩
    · skip
      refine if_wanted rfl ?_
      go_simp
      refine hK _ _ ?_
      clear hK K
      try simp only [Act.put, List.getElem_toArray, List.getElem_cons_zero, List.getElem_cons_succ, List.setIfInBounds_toArray, List.set_cons_zero, List.set_cons_succ]
      refine wpAny_ready (rs := [5]) (by kernel_rfl) (by simp) ?_
      refine AllReady.cons rfl (fun K hK => ?_) AllReady.nil
      refine if_wanted rfl ?_
      go_simp
      refine hK _ _ ?_
      clear hK K
      try simp only [Act.put, List.getElem_toArray, List.getElem_cons_zero, List.getElem_cons_succ, List.setIfInBounds_toArray, List.set_cons_zero, List.set_cons_succ]
      refine wpAny_ready (rs := [8]) (by kernel_rfl) (by simp) ?_
      refine AllReady.cons rfl (fun K hK => ?_) AllReady.nil
      refine if_wanted rfl ?_
      refine wp_append_any _ (.tmp 39) (.tmp 41) 59 59 rfl w2.heap.size 45 i0 (.agg #[.int .u8 0, .int .i16 0, .int .i16 0]) 3 6 Tryd.underlying59 HI.out HZ0.out HZ1.out HZ2.out rfl (by decide) (.slice a xs.length c0) xs.length (xs.flatMap wcells) rfl ((HOW.out.alloc _).drew) _ 1 [.int .u8 k1, .int .i16 y1, .int .i16 n1] rfl (Src.ofSlice _ Tryd.underlying59 ⟨w4.heap.size, 0, none⟩ 1 1 _ rfl (three_cells w4 _ k1 y1 n1) (by intro u hu; simp only [List.mem_cons, List.not_mem_nil, or_false] at hu; rcases hu with rfl | rfl | rfl <;> rfl)) (by unfold maxLen; omega) (by omega) (by have := HSz.out; simp; omega) ?_
      intro v' w5 hown5 hg5 hblk5
      rw [ownBlock_slice] at hg5 hblk5
      have hown6 : w5.ownsRow w2.heap.size 45 3 v' (xs ++ [((k1, y1), n1)]).length ((xs ++ [((k1, y1), n1)]).flatMap wcells) := by rw [List.length_append, List.flatMap_append]; simpa [wcells] using hown5
      obtain ⟨A5, c5, rfl, -, -⟩ := own_rd wcells_length hown6
      rw [ownBlock_slice] at hblk5
      have hN5 := OwnN.put HN.out HK.out HXk.out HBW.out hown6 hg5 hblk5
      rw [show (xs ++ [((k1, y1), n1)]).length = xs.length + 1 from by simp] at hN5
      have HN5 := Lib.hid hN5
      have e5 : w5.cell? ⟨g0, k, none⟩ = some (.slice a xs.length c0) := put_cell HN.out HK.out HBW.out hg5 hc1
      have f5 : w5.frozen? ⟨g0, k, none⟩ = false := put_frozen HN.out HK.out HBW.out hg5
      have HB5 : Hid (Below w.heap.size w w5) := put_below HB4.out (own_base HOW.out HSy.out) hg5 (by have := HSz.out; have := HSy.out; omega)
      clear hown5 hown6 hg5 hblk5 hN5
      refine hK _ _ ?_
      clear hK K
      try simp only [Act.put, List.getElem_toArray, List.getElem_cons_zero, List.getElem_cons_succ, List.setIfInBounds_toArray, List.set_cons_zero, List.set_cons_succ]
      refine wpAny_take (i := 9) (v := .pointer (some ⟨g0, k, none⟩)) rfl (by kernel_rfl) (by kernel_rfl) (by kernel_rfl) (fun _ _ _ h => h) (Or.inl ⟨by rfl, fun w' => by go_simp⟩) ?_
      try simp only [Act.put, List.getElem_toArray, List.getElem_cons_zero, List.getElem_cons_succ, List.setIfInBounds_toArray, List.set_cons_zero, List.set_cons_succ]
      refine wpAny_ready (rs := [10]) (by kernel_rfl) (by simp) ?_
      refine AllReady.cons rfl (fun K hK => ?_) AllReady.nil
      refine if_wanted rfl ?_
      go_simp
      refine hK _ _ ?_
      clear hK K
      try simp only [Act.put, List.getElem_toArray, List.getElem_cons_zero, List.getElem_cons_succ, List.setIfInBounds_toArray, List.set_cons_zero, List.set_cons_succ]
      refine wpAny_done (by kernel_rfl) ?_ _
      try simp only [Act.put, List.getElem_toArray, List.getElem_cons_zero, List.getElem_cons_succ, List.setIfInBounds_toArray, List.set_cons_zero, List.set_cons_succ]
      go_wp2
      go_ret2
      exact ⟨_, _, by (rw [E1.out, E2.out, List.length_set, ← HLen.out]; first | done | rfl), by rw [E2.out]; exact HN5.out.rd wcells_length, HB5.out.setCell (p := ⟨g0, k, none⟩) (by have hq : w2.heap.size ≤ g0 := (own_block HN.out.1 rfl).1; have := HSy.out; show w.heap.size ≤ g0; omega) _⟩

/-- What is stored, checked as a list of one. -/
theorem checkStored1_any (x : Wnt) (B c : Nat) (ad : Nat → Addr) (w : World) (hB : B < w.heap.size) (hr : w.rangeAt B 0 (wcells x)) (hE : I5 w ad) :
    Calls Tryd.prog 48 #[.slice (some ⟨B, 0, none⟩) 1 c] w fun e w' => e = .returned (erV ad 5 (sV x)) ∧ Below w.heap.size w w' := by
  have hrd : Rd w w.heap.size wcells (some ⟨B, 0, none⟩) [x] := fun _ => ⟨B, 0, rfl, hB, by simpa using hr⟩
  have HR := Lib.hid hrd
  have HE := Lib.hid hE
  clear hr hE hrd
  go_enter Tryd.func48, Tryd.ntmps48
  go_wp2_with fail
  refine (checkEachS_any [x] _ c ad w (by simp) HR.out HE.out).mono ?_
  rintro e w1 ⟨rfl, hb⟩
  have HB1 := Lib.hid hb
  clear hb
  obtain ⟨v, hv⟩ : ∃ v, erV ad 5 ([x].all sV) = v := ⟨_, rfl⟩
  have HV := Lib.hid hv
  rw [hv]
  clear hv
  go_wp2
  go_ret
  exact ⟨by (rw [← HV.out]; simp), HB1.out⟩
theorem three_cells' (W : World) (t : TypeId) (k y n : Int) : (W.alloc (.cells #[.int .u8 k, .int .i16 y, .int .i16 n] t)).rangeAt W.heap.size 0 (wcells ((k, y), n)) := fun j v hv => by
  rw [Nat.zero_add, (Blk.new W t #[.int .u8 k, .int .i16 y, .int .i16 n]).cell]; simpa [wcells] using hv

set_option maxRecDepth 100000 in
set_option maxHeartbeats 4000000 in
theorem implStoreAt_any (xss : List (List Wnt)) (hwf : ∀ xs ∈ xss, ∀ x ∈ xs, wfW x) (x : Wnt) (hwx : wfW x) (A : Option Addr) (c : Nat) (l : Int) (ad : Nat → Addr) (w : World) (hl : xss.length ≤ 1048576) (hx : ∀ xs ∈ xss, xs.length ≤ 1048576) (hr : RdN w w.heap.size wcells A xss) (hE : EW 7 w ad) :
    Calls Tryd.prog 23 #[.slice A xss.length c, .int .i64 l, .agg (wcells x).toArray] w fun e w' => ∃ A' c' hs, e = .returned (.tuple #[.slice A' (stL xss l x).length c', .int .i64 (stC xss l x)]) ∧ OwnN w' w.heap.size 59 45 3 wcells A' c' hs (stL xss l x) ∧ Below w.heap.size w w' := by
  obtain ⟨⟨k1, y1⟩, n1⟩ := x
  show Calls Tryd.prog 23 #[.slice A xss.length c, .int .i64 l, .agg #[.int .u8 k1, .int .i16 y1, .int .i16 n1]] w _
  have HR := Lib.hid hr
  have HW := Lib.hid hwf
  have HX := Lib.hid hx
  have HWX := Lib.hid hwx
  have HE := Lib.hid hE
  clear hr hwf hx hwx hE
  have h1 : Blk (w.alloc (.cells #[.int .u8 k1, .int .i16 y1, .int .i16 n1] 45)) w.heap.size 45 #[.int .u8 k1, .int .i16 y1, .int .i16 n1] := Blk.new w _ _
  have h2 : Below w.heap.size w (w.alloc (.cells #[.int .u8 k1, .int .i16 y1, .int .i16 n1] 45)) := (Below.refl _ w).alloc (Nat.le_refl _) _
  obtain ⟨v0, hv0⟩ : ∃ v, erV ad 5 (rkOk xss) = v := ⟨_, rfl⟩
  obtain ⟨v1, hv1⟩ : ∃ v, erV ad 5 (sV ((k1, y1), n1)) = v := ⟨_, rfl⟩
  obtain ⟨v2, hv2⟩ : ∃ v, erV ad 0 (inB l xss.length) = v := ⟨_, rfl⟩
  have P0 : Hid (isE v0) := by rw [← hv0]; exact erV_isE _ _ _
  have P1 : Hid (isE v1) := by rw [← hv1]; exact erV_isE _ _ _
  have P2 : Hid (isE v2) := by rw [← hv2]; exact erV_isE _ _ _
  have HC0 : Hid (∀ w', RdN w' w'.heap.size wcells A xss → EW 7 w' ad → Calls Tryd.prog 32 #[.slice A xss.length c] w' fun e w'' => e = .returned v0 ∧ Below w'.heap.size w' w'') := fun w' hr hE => by
    rw [← hv0]; exact checkRack_any xss A c ad w' hl HX.out hr hE
  have HC1 : Hid (∀ B w', B < w'.heap.size → w'.rangeAt B 0 (wcells ((k1, y1), n1)) → EW 7 w' ad → Calls Tryd.prog 48 #[.slice (some ⟨B, 0, none⟩) 1 1] w' fun e w'' => e = .returned v1 ∧ Below w'.heap.size w' w'') := fun B w' hB hr hE => by
    rw [← hv1]; exact checkStored1_any ((k1, y1), n1) B 1 ad w' hB hr hE.i5
  have HC2 : Hid (∀ w', EW 7 w' ad → Calls Tryd.prog 52 #[.slice A xss.length c, .int .i64 l] w' fun e w'' => e = .returned v2 ∧ Below w'.heap.size w' w'') := fun w' hE => by
    rw [← hv2]; exact checkLane_any xss.length c A l ad w' hl hE
  have HPs : Hid (∀ v ∈ [v0, v1, v2], isE v) := by
    intro v hv
    simp only [List.mem_cons, List.not_mem_nil, or_false] at hv
    rcases hv with e | e | e
    · rw [e]; exact P0.out
    · rw [e]; exact P1.out
    · rw [e]; exact P2.out
  have V0 := Lib.hid hv0
  have V1 := Lib.hid hv1
  have V2 := Lib.hid hv2
  clear hv0 hv1 hv2
  obtain ⟨W0, hW0⟩ : ∃ W0, w.alloc (.cells #[.int .u8 k1, .int .i16 y1, .int .i16 n1] 45) = W0 := ⟨_, rfl⟩
  rw [hW0] at h1 h2
  have H1 := Lib.hid h1
  have H2 := Lib.hid h2
  clear h1 h2
  go_enter Tryd.func23, Tryd.ntmps23
  go_wp2_with fail
  clear hW0
  refine wp_region_held_drew (S := fun w' => Below W0.heap.size W0 w') (by kernel_rfl) (Below.refl _ _).drew (fun hHeld => ?_)
  refine wpAnyH_take (i := 0) (v := .slice A xss.length c) rfl (by kernel_rfl) (by kernel_rfl) (by kernel_rfl) (fun _ _ _ h => h) (Or.inl ⟨by rfl, fun w' h => by go_simp⟩) (by assumption) ?_
  try simp only [Act.put, List.getElem_toArray, List.getElem_cons_zero, List.getElem_cons_succ, List.setIfInBounds_toArray, List.set_cons_zero, List.set_cons_succ]
  refine wpAnyH_take (i := 5) (v := .slice A xss.length c) rfl (by kernel_rfl) (by kernel_rfl) (by kernel_rfl) (fun _ _ _ h => h) (Or.inl ⟨by rfl, fun w' h => by go_simp⟩) (by assumption) ?_
  try simp only [Act.put, List.getElem_toArray, List.getElem_cons_zero, List.getElem_cons_succ, List.setIfInBounds_toArray, List.set_cons_zero, List.set_cons_succ]
  refine wpAnyH_take (i := 6) (v := .int .i64 l) rfl (by kernel_rfl) (by kernel_rfl) (by kernel_rfl) (fun _ _ _ h => h) (Or.inl ⟨by rfl, fun w' h => by go_simp⟩) (by assumption) ?_
  try simp only [Act.put, List.getElem_toArray, List.getElem_cons_zero, List.getElem_cons_succ, List.setIfInBounds_toArray, List.set_cons_zero, List.set_cons_succ]
  refine wpAnyH_take (i := 2) (v := .agg #[.int .u8 k1, .int .i16 y1, .int .i16 n1]) rfl (by kernel_rfl) (by kernel_rfl) (by kernel_rfl) (fun _ _ _ h => h) (Or.inl ⟨by rfl, fun w' h => by have HM := (H1.out.below h H1.out.lt); have g0 : w'.cell? ⟨w.heap.size, 0, none⟩ = some (.int .u8 k1) := HM.cell 0; have g1 : w'.cell? ⟨w.heap.size, 1, none⟩ = some (.int .i16 y1) := HM.cell 1; have g2 : w'.cell? ⟨w.heap.size, 2, none⟩ = some (.int .i16 n1) := HM.cell 2; go_simp⟩) (by assumption) ?_
  try simp only [Act.put, List.getElem_toArray, List.getElem_cons_zero, List.getElem_cons_succ, List.setIfInBounds_toArray, List.set_cons_zero, List.set_cons_succ]
  obtain ⟨D0, hD0⟩ : ∃ D0, W0.drew = D0 := ⟨_, rfl⟩
  rw [hD0] at hHeld ⊢
  clear hD0
  refine wpAnyH_ready (rs := [1, 3]) (by kernel_rfl) (by simp) ?_
  refine AllReadyH.cons rfl (fun K hK => ?_) (AllReadyH.cons rfl (fun K hK => ?_) AllReadyH.nil)
  · skip
    refine if_wanted rfl ?_
    go_simp
    refine (HC0.out _ (HR.out.keep (H2.out.trans (hHeld.mono H2.out.size))) (HE.out.below (H2.out.trans (hHeld.mono H2.out.size)) (Nat.le_refl _))).mono ?_
    rintro e z1 ⟨rfl, hb⟩
    have hH2 : Below W0.heap.size W0 z1 := hHeld.trans (hb.mono hHeld.size)
    clear hb hHeld
    dsimp only
    refine hK.out _ _ hH2 (fun hHeld => ?_)
    clear hK K hH2
    try simp only [Act.put, List.getElem_toArray, List.getElem_cons_zero, List.getElem_cons_succ, List.setIfInBounds_toArray, List.set_cons_zero, List.set_cons_succ]
    refine wpAnyH_ready (rs := [3]) (by kernel_rfl) (by simp) ?_
    refine AllReadyH.cons rfl (fun K hK => ?_) AllReadyH.nil
    refine if_wanted rfl ?_
    go_simp
    refine hK.out _ _ (hHeld.alloc hHeld.size _) (fun hHeld => ?_)
    clear hK K
    try simp only [Act.put, List.getElem_toArray, List.getElem_cons_zero, List.getElem_cons_succ, List.setIfInBounds_toArray, List.set_cons_zero, List.set_cons_succ]
    refine wpAnyH_ready (rs := [4]) (by kernel_rfl) (by simp) ?_
    refine AllReadyH.cons rfl (fun K hK => ?_) AllReadyH.nil
    refine if_wanted rfl ?_
    go_simp
    refine (HC1.out z1.heap.size _ (by simp) (three_cells' z1 _ k1 y1 n1) (HE.out.below (H2.out.trans (hHeld.mono H2.out.size)) (Nat.le_refl _))).mono ?_
    rintro e z3 ⟨rfl, hb⟩
    have hH2 : Below W0.heap.size W0 z3 := hHeld.trans (hb.mono hHeld.size)
    clear hb hHeld
    dsimp only
    refine hK.out _ _ hH2 (fun hHeld => ?_)
    clear hK K hH2
    try simp only [Act.put, List.getElem_toArray, List.getElem_cons_zero, List.getElem_cons_succ, List.setIfInBounds_toArray, List.set_cons_zero, List.set_cons_succ]
    refine wpAnyH_ready (rs := [7]) (by kernel_rfl) (by simp) ?_
    refine AllReadyH.cons rfl (fun K hK => ?_) AllReadyH.nil
    refine if_wanted rfl ?_
    go_simp
    refine (HC2.out _ (HE.out.below (H2.out.trans (hHeld.mono H2.out.size)) (Nat.le_refl _))).mono ?_
    rintro e z4 ⟨rfl, hb⟩
    have hH2 : Below W0.heap.size W0 z4 := hHeld.trans (hb.mono hHeld.size)
    clear hb hHeld
    dsimp only
    refine hK.out _ _ hH2 (fun hHeld => ?_)
    clear hK K hH2
    try simp only [Act.put, List.getElem_toArray, List.getElem_cons_zero, List.getElem_cons_succ, List.setIfInBounds_toArray, List.set_cons_zero, List.set_cons_succ]
    refine wpAnyH_ready (rs := [8]) (by kernel_rfl) (by simp) ?_
    refine AllReadyH.cons rfl (fun K hK => ?_) AllReadyH.nil
    refine if_wanted rfl (wp_threeErrs (.tmp 11) (.tmp 14) (.tmp 17) rfl P0.out P1.out P2.out rfl rfl rfl ?_)
    refine hK.out _ _ (hHeld.alloc hHeld.size _) (fun hHeld => ?_)
    clear hK K
    try simp only [Act.put, List.getElem_toArray, List.getElem_cons_zero, List.getElem_cons_succ, List.setIfInBounds_toArray, List.set_cons_zero, List.set_cons_succ]
    refine wpAnyH_ready (rs := [9]) (by kernel_rfl) (by simp) ?_
    refine AllReadyH.cons rfl (fun K hK => ?_) AllReadyH.nil
    refine if_wanted rfl ?_
    go_simp
    refine (firstErrs_any [v0, v1, v2] HPs.out z4.heap.size _ _ (by simp) (cells3 z4 v0 v1 v2 _)).mono ?_
    rintro e w9 ⟨rfl, rfl⟩
    dsimp only
    refine hK.out _ _ hHeld (fun hHeld => ?_)
    clear hK K
    try simp only [Act.put, List.getElem_toArray, List.getElem_cons_zero, List.getElem_cons_succ, List.setIfInBounds_toArray, List.set_cons_zero, List.set_cons_succ]
    refine wpAnyH_ready (rs := [10]) (by kernel_rfl) (by simp) ?_
    refine AllReadyH.cons rfl (fun K hK => ?_) AllReadyH.nil
    refine if_wanted rfl ?_
    refine wp_assign0 (v := firstL [v0, v1, v2]) rfl rfl ?_
    refine hK.out _ _ hHeld (fun hHeld => ?_)
    clear hK K
    try simp only [Act.put, List.getElem_toArray, List.getElem_cons_zero, List.getElem_cons_succ, List.setIfInBounds_toArray, List.set_cons_zero, List.set_cons_succ]
    refine wpAnyH_done (by kernel_rfl) ?_ _
    try simp only [Act.put, List.getElem_toArray, List.getElem_cons_zero, List.getElem_cons_succ, List.setIfInBounds_toArray, List.set_cons_zero, List.set_cons_succ]
    obtain ⟨w3, hw3⟩ : ∃ w3, z4.alloc (.cells #[v0, v1, v2] 62) = w3 := ⟨_, rfl⟩
    rw [hw3] at hHeld ⊢
    clear hw3
    have M2 : Hid (Below w.heap.size w w3) := H2.out.trans (hHeld.mono H2.out.size)
    have M1 : Hid (Blk w3 w.heap.size 45 #[.int .u8 k1, .int .i16 y1, .int .i16 n1]) := H1.out.below hHeld H1.out.lt
    clear hHeld
    cases ha : rkOk xss
    · have hv : firstL [v0, v1, v2] = .iface 135 (.pointer (some (ad 5))) := by rw [← V0.out, ha]; rfl
      rw [hv]
      have h0 : stC xss l ((k1, y1), n1) = 1 := by simp [stC, ha]
      have E1 := Lib.hid h0
      have E2 := Lib.hid (stL_no (xss := xss) (l := l) (x := ((k1, y1), n1)) (by omega))
      clear hv h0
      go_wp2_with fail
      refine (codeOf_5 (HE.out.below M2.out (Nat.le_refl _))).mono ?_
      rintro e w4 ⟨rfl, rfl⟩
      go_wp2
      go_ret2
      exact ⟨_, _, [], by (rw [E1.out, E2.out]; first | done | rfl), by rw [E2.out]; exact OwnN.nil _ _ _ _ _ _, M2.out⟩
    cases hs : sV ((k1, y1), n1)
    · have hv : firstL [v0, v1, v2] = .iface 135 (.pointer (some (ad 5))) := by rw [← V0.out, ← V1.out, ha, hs]; rfl
      rw [hv]
      have h0 : stC xss l ((k1, y1), n1) = 1 := by simp [stC, hs]
      have E1 := Lib.hid h0
      have E2 := Lib.hid (stL_no (xss := xss) (l := l) (x := ((k1, y1), n1)) (by omega))
      clear hv h0
      go_wp2_with fail
      refine (codeOf_5 (HE.out.below M2.out (Nat.le_refl _))).mono ?_
      rintro e w4 ⟨rfl, rfl⟩
      go_wp2
      go_ret2
      exact ⟨_, _, [], by (rw [E1.out, E2.out]; first | done | rfl), by rw [E2.out]; exact OwnN.nil _ _ _ _ _ _, M2.out⟩
    cases hi : inB l xss.length
    · have hv : firstL [v0, v1, v2] = .iface 135 (.pointer (some (ad 0))) := by rw [← V0.out, ← V1.out, ← V2.out, ha, hs, hi]; rfl
      rw [hv]
      have h0 : stC xss l ((k1, y1), n1) = 2 := by simp [stC, ha, hs, hi]
      have E1 := Lib.hid h0
      have E2 := Lib.hid (stL_no (xss := xss) (l := l) (x := ((k1, y1), n1)) (by omega))
      clear hv h0
      go_wp2_with fail
      refine (codeOf_0 (EW.less (HE.out.below M2.out (Nat.le_refl _)) (by omega))).mono ?_
      rintro e w4 ⟨rfl, rfl⟩
      go_wp2
      go_ret2
      exact ⟨_, _, [], by (rw [E1.out, E2.out]; first | done | rfl), by rw [E2.out]; exact OwnN.nil _ _ _ _ _ _, M2.out⟩
    have hv : firstL [v0, v1, v2] = .nilIface := by rw [← V0.out, ← V1.out, ← V2.out, ha, hs, hi]; rfl
    rw [hv]
    obtain ⟨k, rfl, hk⟩ := inB_nat hi
    have HA := Lib.hid ha
    have HSv := Lib.hid hs
    have HI1 := Lib.hid hi
    clear hv ha hs hi V0 V1 V2 P0 P1 P2 HC0 HC1 HC2
    obtain ⟨xs, hxs⟩ : ∃ xs, lnAt xss k = xs := ⟨_, rfl⟩
    have hxk := lnAt_nat hk
    rw [hxs] at hxk
    have HXs := Lib.hid hxs
    have HXk := Lib.hid hxk
    obtain ⟨b, o, a0, c', rfl, hb, hc, -⟩ := (HR.out.keep M2.out).at_ hxk
    have hxl := HX.out xs (List.mem_of_getElem? hxk)
    have hk0 : (0 : Int) ≤ (k : Int) := Int.natCast_nonneg _
    have hk8 : (k : Int) < xss.length := by omega
    clear hxk hxs
    by_cases h6 : xs.length = 6
    · have h6' : (xs.length : Int) = 6 := by omega
      have hcd : stC xss k ((k1, y1), n1) = 3 := by simp [stC, HA.out, HSv.out, HI1.out, HXs.out, h6]
      have E1 := Lib.hid hcd
      have E2 := Lib.hid (stL_no (xss := xss) (l := (k : Int)) (x := ((k1, y1), n1)) (by omega))
      have c1 : w3.cell? ⟨0, 0, none⟩ = some (.iface 135 (.pointer (some (ad 1)))) := (HE.out.below M2.out (Nat.le_refl _)).cell 1 (by omega)
      clear hcd h6
      go_wp2_with fail
      refine (codeOf_1 (EW.less (HE.out.below M2.out (Nat.le_refl _)) (by omega))).mono ?_
      rintro e w4 ⟨rfl, rfl⟩
      go_wp2
      go_ret2
      exact ⟨_, _, [], by (rw [E1.out, E2.out]; first | done | rfl), by rw [E2.out]; exact OwnN.nil _ _ _ _ _ _, M2.out⟩
    have h6' : ((xs.length : Int) == 6) = false := by simp; omega
    have hcd : stC xss k ((k1, y1), n1) = 0 := by simp [stC, HA.out, HSv.out, HI1.out, HXs.out, h6]
    have E1 := Lib.hid hcd
    have E2 : Hid (stL xss k ((k1, y1), n1) = xss.set k (xs ++ [((k1, y1), n1)])) := by
      show stL xss k ((k1, y1), n1) = _
      rw [stL_yes hcd, HXs.out]
    clear hcd h6
    go_wp2_with fail
    clear hc hb
    refine (copied_any xss _ c _ hl HX.out (HR.out.keep M2.out)).mono ?_
    rintro e w4 ⟨A1, c1, hs, rfl, hN, hb4⟩
    have HN := Lib.hid hN
    have HB4 : Hid (Below w.heap.size w w4) := M2.out.trans (hb4.mono M2.out.size)
    have HC4 : Hid (Blk w4 w.heap.size 45 #[.int .u8 k1, .int .i16 y1, .int .i16 n1]) := M1.out.keep hb4
    have HSz : Hid (w3.heap.size ≤ w4.heap.size) := hb4.size
    have HSy : Hid (w.heap.size ≤ w3.heap.size) := M2.out.size
    have d0 : w4.cell? ⟨w.heap.size, 0, none⟩ = some (.int .u8 k1) := HC4.out.cell 0
    have d1 : w4.cell? ⟨w.heap.size, 1, none⟩ = some (.int .i16 y1) := HC4.out.cell 1
    have d2 : w4.cell? ⟨w.heap.size, 2, none⟩ = some (.int .i16 n1) := HC4.out.cell 2
    clear hN hb4
    go_wp2_with fail
    refine (put_any xss hs w3.heap.size A1 c1 k ((k1, y1), n1) xs w4 HN.out HSz.out HXk.out hl hxl).mono ?_
    rintro e w5 ⟨hs', rfl, hN5, hb5⟩
    have HN5 := Lib.hid hN5
    have HB5 : Hid (Below w.heap.size w w5) := HB4.out.trans (hb5.mono HSy.out)
    clear hN5 hb5 d0 d1 d2
    go_wp2
    go_ret2
    exact ⟨_, _, hs', by (rw [E1.out, E2.out, List.length_set]; first | done | rfl), by rw [E2.out]; exact HN5.out.base HSy.out, HB5.out⟩
  · skip
    refine if_wanted rfl ?_
    go_simp
    refine hK.out _ _ (hHeld.alloc hHeld.size _) (fun hHeld => ?_)
    clear hK K
    try simp only [Act.put, List.getElem_toArray, List.getElem_cons_zero, List.getElem_cons_succ, List.setIfInBounds_toArray, List.set_cons_zero, List.set_cons_succ]
    refine wpAnyH_ready (rs := [1]) (by kernel_rfl) (by simp) ?_
    refine AllReadyH.cons rfl (fun K hK => ?_) AllReadyH.nil
    refine if_wanted rfl ?_
    go_simp
    refine (HC0.out _ (HR.out.keep (H2.out.trans (hHeld.mono H2.out.size))) (HE.out.below (H2.out.trans (hHeld.mono H2.out.size)) (Nat.le_refl _))).mono ?_
    rintro e z1 ⟨rfl, hb⟩
    have hH2 : Below W0.heap.size W0 z1 := hHeld.trans (hb.mono hHeld.size)
    have hrB := rangeAt_below (three_cells' D0 45 k1 y1 n1) hb (by simp)
    have hlB : D0.heap.size < z1.heap.size := by have := hb.size; simp at this; omega
    clear hb hHeld
    dsimp only
    refine hK.out _ _ hH2 (fun hHeld => ?_)
    clear hK K hH2
    try simp only [Act.put, List.getElem_toArray, List.getElem_cons_zero, List.getElem_cons_succ, List.setIfInBounds_toArray, List.set_cons_zero, List.set_cons_succ]
    refine wpAnyH_ready (rs := [4]) (by kernel_rfl) (by simp) ?_
    refine AllReadyH.cons rfl (fun K hK => ?_) AllReadyH.nil
    refine if_wanted rfl ?_
    go_simp
    refine (HC1.out D0.heap.size _ hlB hrB (HE.out.below (H2.out.trans (hHeld.mono H2.out.size)) (Nat.le_refl _))).mono ?_
    rintro e z3 ⟨rfl, hb⟩
    have hH2 : Below W0.heap.size W0 z3 := hHeld.trans (hb.mono hHeld.size)
    clear hrB hlB
    clear hb hHeld
    dsimp only
    refine hK.out _ _ hH2 (fun hHeld => ?_)
    clear hK K hH2
    try simp only [Act.put, List.getElem_toArray, List.getElem_cons_zero, List.getElem_cons_succ, List.setIfInBounds_toArray, List.set_cons_zero, List.set_cons_succ]
    refine wpAnyH_ready (rs := [7]) (by kernel_rfl) (by simp) ?_
    refine AllReadyH.cons rfl (fun K hK => ?_) AllReadyH.nil
    refine if_wanted rfl ?_
    go_simp
    refine (HC2.out _ (HE.out.below (H2.out.trans (hHeld.mono H2.out.size)) (Nat.le_refl _))).mono ?_
    rintro e z4 ⟨rfl, hb⟩
    have hH2 : Below W0.heap.size W0 z4 := hHeld.trans (hb.mono hHeld.size)
    clear hb hHeld
    dsimp only
    refine hK.out _ _ hH2 (fun hHeld => ?_)
    clear hK K hH2
    try simp only [Act.put, List.getElem_toArray, List.getElem_cons_zero, List.getElem_cons_succ, List.setIfInBounds_toArray, List.set_cons_zero, List.set_cons_succ]
    refine wpAnyH_ready (rs := [8]) (by kernel_rfl) (by simp) ?_
    refine AllReadyH.cons rfl (fun K hK => ?_) AllReadyH.nil
    refine if_wanted rfl (wp_threeErrs (.tmp 11) (.tmp 14) (.tmp 17) rfl P0.out P1.out P2.out rfl rfl rfl ?_)
    refine hK.out _ _ (hHeld.alloc hHeld.size _) (fun hHeld => ?_)
    clear hK K
    try simp only [Act.put, List.getElem_toArray, List.getElem_cons_zero, List.getElem_cons_succ, List.setIfInBounds_toArray, List.set_cons_zero, List.set_cons_succ]
    refine wpAnyH_ready (rs := [9]) (by kernel_rfl) (by simp) ?_
    refine AllReadyH.cons rfl (fun K hK => ?_) AllReadyH.nil
    refine if_wanted rfl ?_
    go_simp
    refine (firstErrs_any [v0, v1, v2] HPs.out z4.heap.size _ _ (by simp) (cells3 z4 v0 v1 v2 _)).mono ?_
    rintro e w9 ⟨rfl, rfl⟩
    dsimp only
    refine hK.out _ _ hHeld (fun hHeld => ?_)
    clear hK K
    try simp only [Act.put, List.getElem_toArray, List.getElem_cons_zero, List.getElem_cons_succ, List.setIfInBounds_toArray, List.set_cons_zero, List.set_cons_succ]
    refine wpAnyH_ready (rs := [10]) (by kernel_rfl) (by simp) ?_
    refine AllReadyH.cons rfl (fun K hK => ?_) AllReadyH.nil
    refine if_wanted rfl ?_
    refine wp_assign0 (v := firstL [v0, v1, v2]) rfl rfl ?_
    refine hK.out _ _ hHeld (fun hHeld => ?_)
    clear hK K
    try simp only [Act.put, List.getElem_toArray, List.getElem_cons_zero, List.getElem_cons_succ, List.setIfInBounds_toArray, List.set_cons_zero, List.set_cons_succ]
    refine wpAnyH_done (by kernel_rfl) ?_ _
    try simp only [Act.put, List.getElem_toArray, List.getElem_cons_zero, List.getElem_cons_succ, List.setIfInBounds_toArray, List.set_cons_zero, List.set_cons_succ]
    obtain ⟨w3, hw3⟩ : ∃ w3, z4.alloc (.cells #[v0, v1, v2] 62) = w3 := ⟨_, rfl⟩
    rw [hw3] at hHeld ⊢
    clear hw3
    have M2 : Hid (Below w.heap.size w w3) := H2.out.trans (hHeld.mono H2.out.size)
    have M1 : Hid (Blk w3 w.heap.size 45 #[.int .u8 k1, .int .i16 y1, .int .i16 n1]) := H1.out.below hHeld H1.out.lt
    clear hHeld
    cases ha : rkOk xss
    · have hv : firstL [v0, v1, v2] = .iface 135 (.pointer (some (ad 5))) := by rw [← V0.out, ha]; rfl
      rw [hv]
      have h0 : stC xss l ((k1, y1), n1) = 1 := by simp [stC, ha]
      have E1 := Lib.hid h0
      have E2 := Lib.hid (stL_no (xss := xss) (l := l) (x := ((k1, y1), n1)) (by omega))
      clear hv h0
      go_wp2_with fail
      refine (codeOf_5 (HE.out.below M2.out (Nat.le_refl _))).mono ?_
      rintro e w4 ⟨rfl, rfl⟩
      go_wp2
      go_ret2
      exact ⟨_, _, [], by (rw [E1.out, E2.out]; first | done | rfl), by rw [E2.out]; exact OwnN.nil _ _ _ _ _ _, M2.out⟩
    cases hs : sV ((k1, y1), n1)
    · have hv : firstL [v0, v1, v2] = .iface 135 (.pointer (some (ad 5))) := by rw [← V0.out, ← V1.out, ha, hs]; rfl
      rw [hv]
      have h0 : stC xss l ((k1, y1), n1) = 1 := by simp [stC, hs]
      have E1 := Lib.hid h0
      have E2 := Lib.hid (stL_no (xss := xss) (l := l) (x := ((k1, y1), n1)) (by omega))
      clear hv h0
      go_wp2_with fail
      refine (codeOf_5 (HE.out.below M2.out (Nat.le_refl _))).mono ?_
      rintro e w4 ⟨rfl, rfl⟩
      go_wp2
      go_ret2
      exact ⟨_, _, [], by (rw [E1.out, E2.out]; first | done | rfl), by rw [E2.out]; exact OwnN.nil _ _ _ _ _ _, M2.out⟩
    cases hi : inB l xss.length
    · have hv : firstL [v0, v1, v2] = .iface 135 (.pointer (some (ad 0))) := by rw [← V0.out, ← V1.out, ← V2.out, ha, hs, hi]; rfl
      rw [hv]
      have h0 : stC xss l ((k1, y1), n1) = 2 := by simp [stC, ha, hs, hi]
      have E1 := Lib.hid h0
      have E2 := Lib.hid (stL_no (xss := xss) (l := l) (x := ((k1, y1), n1)) (by omega))
      clear hv h0
      go_wp2_with fail
      refine (codeOf_0 (EW.less (HE.out.below M2.out (Nat.le_refl _)) (by omega))).mono ?_
      rintro e w4 ⟨rfl, rfl⟩
      go_wp2
      go_ret2
      exact ⟨_, _, [], by (rw [E1.out, E2.out]; first | done | rfl), by rw [E2.out]; exact OwnN.nil _ _ _ _ _ _, M2.out⟩
    have hv : firstL [v0, v1, v2] = .nilIface := by rw [← V0.out, ← V1.out, ← V2.out, ha, hs, hi]; rfl
    rw [hv]
    obtain ⟨k, rfl, hk⟩ := inB_nat hi
    have HA := Lib.hid ha
    have HSv := Lib.hid hs
    have HI1 := Lib.hid hi
    clear hv ha hs hi V0 V1 V2 P0 P1 P2 HC0 HC1 HC2
    obtain ⟨xs, hxs⟩ : ∃ xs, lnAt xss k = xs := ⟨_, rfl⟩
    have hxk := lnAt_nat hk
    rw [hxs] at hxk
    have HXs := Lib.hid hxs
    have HXk := Lib.hid hxk
    obtain ⟨b, o, a0, c', rfl, hb, hc, -⟩ := (HR.out.keep M2.out).at_ hxk
    have hxl := HX.out xs (List.mem_of_getElem? hxk)
    have hk0 : (0 : Int) ≤ (k : Int) := Int.natCast_nonneg _
    have hk8 : (k : Int) < xss.length := by omega
    clear hxk hxs
    by_cases h6 : xs.length = 6
    · have h6' : (xs.length : Int) = 6 := by omega
      have hcd : stC xss k ((k1, y1), n1) = 3 := by simp [stC, HA.out, HSv.out, HI1.out, HXs.out, h6]
      have E1 := Lib.hid hcd
      have E2 := Lib.hid (stL_no (xss := xss) (l := (k : Int)) (x := ((k1, y1), n1)) (by omega))
      have c1 : w3.cell? ⟨0, 0, none⟩ = some (.iface 135 (.pointer (some (ad 1)))) := (HE.out.below M2.out (Nat.le_refl _)).cell 1 (by omega)
      clear hcd h6
      go_wp2_with fail
      refine (codeOf_1 (EW.less (HE.out.below M2.out (Nat.le_refl _)) (by omega))).mono ?_
      rintro e w4 ⟨rfl, rfl⟩
      go_wp2
      go_ret2
      exact ⟨_, _, [], by (rw [E1.out, E2.out]; first | done | rfl), by rw [E2.out]; exact OwnN.nil _ _ _ _ _ _, M2.out⟩
    have h6' : ((xs.length : Int) == 6) = false := by simp; omega
    have hcd : stC xss k ((k1, y1), n1) = 0 := by simp [stC, HA.out, HSv.out, HI1.out, HXs.out, h6]
    have E1 := Lib.hid hcd
    have E2 : Hid (stL xss k ((k1, y1), n1) = xss.set k (xs ++ [((k1, y1), n1)])) := by
      show stL xss k ((k1, y1), n1) = _
      rw [stL_yes hcd, HXs.out]
    clear hcd h6
    go_wp2_with fail
    clear hc hb
    refine (copied_any xss _ c _ hl HX.out (HR.out.keep M2.out)).mono ?_
    rintro e w4 ⟨A1, c1, hs, rfl, hN, hb4⟩
    have HN := Lib.hid hN
    have HB4 : Hid (Below w.heap.size w w4) := M2.out.trans (hb4.mono M2.out.size)
    have HC4 : Hid (Blk w4 w.heap.size 45 #[.int .u8 k1, .int .i16 y1, .int .i16 n1]) := M1.out.keep hb4
    have HSz : Hid (w3.heap.size ≤ w4.heap.size) := hb4.size
    have HSy : Hid (w.heap.size ≤ w3.heap.size) := M2.out.size
    have d0 : w4.cell? ⟨w.heap.size, 0, none⟩ = some (.int .u8 k1) := HC4.out.cell 0
    have d1 : w4.cell? ⟨w.heap.size, 1, none⟩ = some (.int .i16 y1) := HC4.out.cell 1
    have d2 : w4.cell? ⟨w.heap.size, 2, none⟩ = some (.int .i16 n1) := HC4.out.cell 2
    clear hN hb4
    go_wp2_with fail
    refine (put_any xss hs w3.heap.size A1 c1 k ((k1, y1), n1) xs w4 HN.out HSz.out HXk.out hl hxl).mono ?_
    rintro e w5 ⟨hs', rfl, hN5, hb5⟩
    have HN5 := Lib.hid hN5
    have HB5 : Hid (Below w.heap.size w w5) := HB4.out.trans (hb5.mono HSy.out)
    clear hN5 hb5 d0 d1 d2
    go_wp2
    go_ret2
    exact ⟨_, _, hs', by (rw [E1.out, E2.out, List.length_set]; first | done | rfl), by rw [E2.out]; exact HN5.out.base HSy.out, HB5.out⟩
end Go.Proofs.YtceinefoljcgkaaDoor
