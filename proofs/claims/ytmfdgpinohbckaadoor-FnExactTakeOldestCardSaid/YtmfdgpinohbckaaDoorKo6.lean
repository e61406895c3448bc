/-
  ReachOut: what it answers, the model's and the program's contracts. Condition: the rack reads, its numbers fit their kinds, not more than 1048576; the sentinel errors lie as the row lists them.
-/
import Derived.Test.YtmfdgpinohbckaaDoorKo4
import Derived.Test.YtmfdgpinohbckaaDoorKo5
import Derived.Test.YtmfdgpinohbckaaDoorMg11
import Derived.Test.YtmfdgpinohbckaaDoorCy
namespace Go.Proofs.YtmfdgpinohbckaaDoor
open Go.ChangeShapes Go.WideShapes Go.ChangeAt Go.RowKit Go.Deep

/-- What ReachOut answers. -/
def roL (xss : List (List Wnt)) (l i : Int) : List (List Wnt) := if akC xss l i = 0 then rcR xss l.toNat (lnAt xss l) i.toNat else []
def roX (xss : List (List Wnt)) (l i : Int) : Wnt := if akC xss l i = 0 then rcV xss l.toNat (lnAt xss l) i.toNat else ((0, 0), 0)
def roM (xss : List (List Wnt)) (l i : Int) : Nat := if akC xss l i = 0 then rcM xss l.toNat (lnAt xss l) i.toNat else 0
def roC (xss : List (List Wnt)) (l i : Int) : Int := if akC xss l i = 0 then rcK xss l.toNat (lnAt xss l) i.toNat else akC xss l i
theorem ro_no {xss : List (List Wnt)} {l i : Int} (h : ¬ akC xss l i = 0) : roL xss l i = [] ∧ roX xss l i = ((0, 0), 0) ∧ roM xss l i = 0 ∧ roC xss l i = akC xss l i :=
  ⟨by rw [roL, if_neg h], by rw [roX, if_neg h], by rw [roM, if_neg h], by rw [roC, if_neg h]⟩
theorem ro_yes {xss : List (List Wnt)} {k j : Nat} {xs : List Wnt} (h : akC xss (k : Int) (j : Int) = 0) (hx : lnAt xss (k : Int) = xs) : roL xss k j = rcR xss k xs j ∧ roX xss k j = rcV xss k xs j ∧ roM xss k j = rcM xss k xs j ∧ roC xss k j = rcK xss k xs j := by
  subst hx
  exact ⟨by rw [roL, if_pos h]; rfl, by rw [roX, if_pos h]; rfl, by rw [roM, if_pos h]; rfl, by rw [roC, if_pos h]; rfl⟩

set_option maxRecDepth 100000 in
set_option maxHeartbeats 4000000 in
theorem specReachOut_any (xss : List (List Wnt)) (hwf : ∀ xs ∈ xss, ∀ x ∈ xs, wfW x) (A : Option Addr) (c : Nat) (l i : Int) (w : World) (hl : xss.length ≤ 1048576) (hx : ∀ xs ∈ xss, xs.length ≤ 1048576) (hr : RdN w w.heap.size wcells A xss) :
    Calls Tryd.prog 9 #[.slice A xss.length c, .int .i64 l, .int .i64 i] w fun e w' => ∃ A' c', e = .returned (.tuple #[.slice A' (roL xss l i).length c', .agg (wcells (roX xss l i)).toArray, .int .i64 (roM xss l i : Nat), .int .i64 (roC xss l i)]) ∧ RdN w' w'.heap.size wcells A' (roL xss l i) ∧ Below w.heap.size w w' := by
  have HR := Lib.hid hr
  have HW := Lib.hid hwf
  have HX := Lib.hid hx
  clear hr hwf hx
  have h1 : Blk (w.alloc (.cells #[.int .u8 0, .int .i16 0, .int .i16 0] 30)) w.heap.size 30 #[.int .u8 0, .int .i16 0, .int .i16 0] := Blk.new w _ _
  have h2 : Below w.heap.size w (w.alloc (.cells #[.int .u8 0, .int .i16 0, .int .i16 0] 30)) := (Below.refl _ w).alloc (Nat.le_refl _) _
  obtain ⟨W0, hW0⟩ : ∃ W0, w.alloc (.cells #[.int .u8 0, .int .i16 0, .int .i16 0] 30) = W0 := ⟨_, rfl⟩
  rw [hW0] at h1 h2
  have H1 := Lib.hid h1
  have H2 := Lib.hid h2
  clear h1 h2
  go_enter Tryd.func9, Tryd.ntmps9
  go_wp2_with fail
  clear hW0
  refine (l04Asked_any xss HW.out A c l i W0 hl HX.out (HR.out.keep H2.out)).mono ?_
  rintro e w1 ⟨rfl, hb⟩
  have G1 : Hid (Blk w1 w.heap.size 30 #[.int .u8 0, .int .i16 0, .int .i16 0]) := H1.out.keep hb
  have G2 : Hid (Below w.heap.size w w1) := H2.out.trans (hb.mono H2.out.size)
  clear hb H1 H2
  by_cases h0 : akC xss l i = 0
  · obtain ⟨h1, h2, h3⟩ := akC_yes h0
    obtain ⟨k, rfl, hk⟩ := inB_nat h2
    obtain ⟨j, rfl, hj⟩ := inB_nat h3
    obtain ⟨xs, hxs⟩ : ∃ xs, lnAt xss k = xs := ⟨_, rfl⟩
    have E1 := Lib.hid (ro_yes h0 hxs)
    have hxk := lnAt_nat hk
    rw [hxs] at hxk hj
    have hre := l04Reach_any xss A c k j xs w1 (rkOk_len h1) (fun xs h => (rkOk_lane h1 h).1) HW.out (HR.out.keep G2.out) hxk hj
    obtain ⟨L, hL⟩ : ∃ L, rcR xss k xs j = L := ⟨_, rfl⟩
    obtain ⟨⟨⟨k1, y1⟩, n1⟩, hv⟩ : ∃ x, rcV xss k xs j = x := ⟨_, rfl⟩
    obtain ⟨m, hm⟩ : ∃ m : Nat, rcM xss k xs j = m := ⟨_, rfl⟩
    obtain ⟨cd, hcd⟩ : ∃ cd, rcK xss k xs j = cd := ⟨_, rfl⟩
    rw [hL, hv, hm, hcd] at hre E1
    have HRe := Lib.hid hre
    rw [h0]
    clear h0 h1 h2 h3 hxs hxk hj hre hL hv hm hcd hk
    go_wp2_with fail
    refine HRe.out.mono ?_
    rintro e w2 ⟨A2, c2, he, hR2, hb2⟩
    have he2 : e = .returned (.tuple #[.slice A2 L.length c2, .agg #[.int .u8 k1, .int .i16 y1, .int .i16 n1], .int .i64 (m : Int), .int .i64 cd]) := he
    subst he2
    have HR2 := Lib.hid hR2
    have K1 : Hid (Blk w2 w.heap.size 30 #[.int .u8 0, .int .i16 0, .int .i16 0]) := G1.out.keep hb2
    have K2 : Hid (Below w.heap.size w w2) := G2.out.trans (hb2.mono G2.out.size)
    have HSz : Hid (w.heap.size < w1.heap.size) := G1.out.lt
    clear he hR2 hb2 G1 G2 HRe
    have d0 : w2.cell? ⟨w.heap.size, 0, none⟩ = some (.int .u8 0) := K1.out.cell 0
    have d1 : w2.cell? ⟨w.heap.size, 1, none⟩ = some (.int .i16 0) := K1.out.cell 1
    have d2 : w2.cell? ⟨w.heap.size, 2, none⟩ = some (.int .i16 0) := K1.out.cell 2
    have f0 : w2.frozen? ⟨w.heap.size, 0, none⟩ = false := K1.out.frozen 0
    have f1 : w2.frozen? ⟨w.heap.size, 1, none⟩ = false := K1.out.frozen 1
    have f2 : w2.frozen? ⟨w.heap.size, 2, none⟩ = false := K1.out.frozen 2
    go_wp2
    refine bodyPost_ret (v := .tuple #[.slice A2 L.length c2, .agg #[.int .u8 k1, .int .i16 y1, .int .i16 n1], .int .i64 (m : Int), .int .i64 cd]) (by simp [results, Tryd.results9, go_sem, *]) rfl ?_
    have hlt : ∀ k, k = w.heap.size → k < w1.heap.size := fun k e => by have := HSz.out; omega
    exact ⟨A2, c2, by (rw [E1.out.1, E1.out.2.1, E1.out.2.2.1, E1.out.2.2.2]; rfl), by rw [E1.out.1]; exact RdO.rd ((((show RdO w2 w1.heap.size A2 c2 L from HR2.out).only (only_set w2 w.heap.size 0 (.int .u8 k1)) hlt).only (only_set _ w.heap.size 1 (.int .i16 y1)) hlt).only (only_set _ w.heap.size 2 (.int .i16 n1)) hlt), (((K2.out.setCell (p := ⟨w.heap.size, 0, none⟩) (Nat.le_refl _) _).setCell (p := ⟨w.heap.size, 1, none⟩) (Nat.le_refl _) _).setCell (p := ⟨w.heap.size, 2, none⟩) (Nat.le_refl _) _)⟩
  · have E1 := Lib.hid (ro_no h0)
    obtain ⟨cd, hcd⟩ : ∃ cd, akC xss l i = cd := ⟨_, rfl⟩
    have E2 := Lib.hid hcd
    rw [hcd] at h0 ⊢
    have hb0 : (cd == 0) = false := by simpa using h0
    clear hcd
    have hA5 : Below w1.heap.size w1 (w1.alloc (.cells #[] 44)) := (Below.refl _ w1).alloc (Nat.le_refl _) _
    obtain ⟨W5, hW5⟩ : ∃ W5, w1.alloc (.cells #[] 44) = W5 := ⟨_, rfl⟩
    rw [hW5] at hA5
    have HC6 := Lib.hid (G1.out.keep hA5)
    have HB6 := Lib.hid (G2.out.trans (hA5.mono G2.out.size))
    clear hA5
    have d0 : W5.cell? ⟨w.heap.size, 0, none⟩ = some (.int .u8 0) := HC6.out.cell 0
    have d1 : W5.cell? ⟨w.heap.size, 1, none⟩ = some (.int .i16 0) := HC6.out.cell 1
    have d2 : W5.cell? ⟨w.heap.size, 2, none⟩ = some (.int .i16 0) := HC6.out.cell 2
    have f0 : W5.frozen? ⟨w.heap.size, 0, none⟩ = false := HC6.out.frozen 0
    have f1 : W5.frozen? ⟨w.heap.size, 1, none⟩ = false := HC6.out.frozen 1
    have f2 : W5.frozen? ⟨w.heap.size, 2, none⟩ = false := HC6.out.frozen 2
    go_wp2
    refine bodyPost_ret (v := .tuple #[.slice (some ⟨w1.heap.size, 0, none⟩) 0 0, .agg #[.int .u8 0, .int .i16 0, .int .i16 0], .int .i64 0, .int .i64 cd]) (by simp [results, Tryd.results9, go_sem, *]) rfl ?_
    exact ⟨_, _, by (rw [E1.out.1, E1.out.2.1, E1.out.2.2.1, E1.out.2.2.2, E2.out]; rfl), by rw [E1.out.1]; exact rdN_nil _ _ _ _, ((((HB6.out).setCell (p := ⟨w.heap.size, 0, none⟩) (Nat.le_refl _) _).setCell (p := ⟨w.heap.size, 1, none⟩) (Nat.le_refl _) _).setCell (p := ⟨w.heap.size, 2, none⟩) (Nat.le_refl _) _)⟩

theorem rcE_no {xss : List (List Wnt)} {l : Nat} {xs : List Wnt} {i : Nat} (h : rcS xss l xs (xs.length - 1 - i) = none) (ad : Nat → Addr) : rcE ad xss l xs i = .iface 165 (.pointer (some (ad 1))) := by rw [rcE, h]
set_option maxRecDepth 100000 in
set_option maxHeartbeats 4000000 in
theorem implReachOut_any (xss : List (List Wnt)) (hwf : ∀ xs ∈ xss, ∀ x ∈ xs, wfW x) (A : Option Addr) (c : Nat) (l i : Int) (ad : Nat → Addr) (w : World) (hl : xss.length ≤ 1048576) (hx : ∀ xs ∈ xss, xs.length ≤ 1048576) (hr : RdN w w.heap.size wcells A xss) (hE : EW 7 w ad) :
    Calls Tryd.prog 11 #[.slice A xss.length c, .int .i64 l, .int .i64 i] w fun e w' => ∃ A' c' hs, e = .returned (.tuple #[.slice A' (roL xss l i).length c', .agg (wcells (roX xss l i)).toArray, .int .i64 (roM xss l i : Nat), .int .i64 (roC xss l i)]) ∧ OwnN w' w.heap.size 44 30 3 wcells A' c' hs (roL xss l i) ∧ Below w.heap.size w w' := by
  have HR := Lib.hid hr
  have HW := Lib.hid hwf
  have HX := Lib.hid hx
  have HE := Lib.hid hE
  clear hr hwf hx hE
  have h1 : Blk (w.alloc (.cells #[.int .u8 0, .int .i16 0, .int .i16 0] 30)) w.heap.size 30 #[.int .u8 0, .int .i16 0, .int .i16 0] := Blk.new w _ _
  have h2 : Below w.heap.size w (w.alloc (.cells #[.int .u8 0, .int .i16 0, .int .i16 0] 30)) := (Below.refl _ w).alloc (Nat.le_refl _) _
  obtain ⟨W0, hW0⟩ : ∃ W0, w.alloc (.cells #[.int .u8 0, .int .i16 0, .int .i16 0] 30) = W0 := ⟨_, rfl⟩
  rw [hW0] at h1 h2
  have H1 := Lib.hid h1
  have H2 := Lib.hid h2
  clear h1 h2
  go_enter Tryd.func11, Tryd.ntmps11
  go_wp2_with fail
  clear hW0
  refine (checkRack_any xss A c ad _ hl HX.out (HR.out.keep H2.out) (HE.out.below H2.out (Nat.le_refl _))).mono ?_
  rintro e w1 ⟨rfl, hb⟩
  have G1 : Hid (Blk w1 w.heap.size 30 #[.int .u8 0, .int .i16 0, .int .i16 0]) := H1.out.keep hb
  have G2 : Hid (Below w.heap.size w w1) := H2.out.trans (hb.mono H2.out.size)
  clear hb H1 H2
  obtain ⟨v0, hv0⟩ : ∃ v, erV ad 5 (rkOk xss) = v := ⟨_, rfl⟩
  have hp0 := erV_isE ad 5 (rkOk xss)
  rw [hv0] at hp0 ⊢
  have V0 := Lib.hid hv0
  have P0 := Lib.hid hp0
  clear hv0 hp0
  go_wp2_with fail
  refine (checkSpot_any xss A c l i ad w1 hl HX.out (HR.out.keep G2.out) (HE.out.below G2.out (Nat.le_refl _))).mono ?_
  rintro e w2 ⟨rfl, hb⟩
  have K1 : Hid (Blk w2 w.heap.size 30 #[.int .u8 0, .int .i16 0, .int .i16 0]) := G1.out.keep hb
  have K2 : Hid (Below w.heap.size w w2) := G2.out.trans (hb.mono G2.out.size)
  clear hb G1 G2
  obtain ⟨v1, hv1⟩ : ∃ v, erV ad 0 (spotOk xss l i) = v := ⟨_, rfl⟩
  have hp1 := erV_isE ad 0 (spotOk xss l i)
  rw [hv1] at hp1 ⊢
  have V1 := Lib.hid hv1
  have P1 := Lib.hid hp1
  clear hv1 hp1
  go_wp2_with (refine wpList_twoErrs rfl (.tmp 16) (.tmp 20) rfl P0.out P1.out rfl rfl ?_)
  have q0 := new_cell2 w2 v0 v1 67
  refine (first2_any P0.out P1.out _ _ _ q0.1 q0.2).mono ?_
  rintro e w9 ⟨rfl, rfl⟩
  have L2 : Below w.heap.size w (w2.alloc (.cells #[v0, v1] 67)) := K2.out.alloc K2.out.size _
  have L1 : Blk (w2.alloc (.cells #[v0, v1] 67)) w.heap.size 30 #[.int .u8 0, .int .i16 0, .int .i16 0] := K1.out.keep ((Below.refl _ _).alloc (Nat.le_refl _) _)
  obtain ⟨w3, hw3⟩ : ∃ w3, w2.alloc (.cells #[v0, v1] 67) = w3 := ⟨_, rfl⟩
  rw [hw3] at L1 L2 ⊢
  have M1 := Lib.hid L1
  have M2 := Lib.hid L2
  clear q0 hw3 L1 L2 K1 K2
  cases ha : rkOk xss
  · have hv : firstV v0 v1 = .iface 165 (.pointer (some (ad 5))) := by rw [← V0.out, ha]; rfl
    rw [hv]
    have h0 : akC xss l i = 1 := by simp [akC, ha]
    have E1 := Lib.hid (ro_no (xss := xss) (l := l) (i := i) (by omega))
    have E2 := Lib.hid h0
    have d0 : w3.cell? ⟨w.heap.size, 0, none⟩ = some (.int .u8 0) := M1.out.cell 0
    have d1 : w3.cell? ⟨w.heap.size, 1, none⟩ = some (.int .i16 0) := M1.out.cell 1
    have d2 : w3.cell? ⟨w.heap.size, 2, none⟩ = some (.int .i16 0) := M1.out.cell 2
    have f0 : w3.frozen? ⟨w.heap.size, 0, none⟩ = false := M1.out.frozen 0
    have f1 : w3.frozen? ⟨w.heap.size, 1, none⟩ = false := M1.out.frozen 1
    have f2 : w3.frozen? ⟨w.heap.size, 2, none⟩ = false := M1.out.frozen 2
    clear hv h0
    go_wp2_with fail
    refine (codeOf_5 (HE.out.below M2.out (Nat.le_refl _))).mono ?_
    rintro e w4 ⟨rfl, rfl⟩
    go_wp2
    refine bodyPost_ret (v := .tuple #[.slice none 0 0, .agg #[.int .u8 0, .int .i16 0, .int .i16 0], .int .i64 0, .int .i64 1]) (by simp [results, Tryd.results11, go_sem, *]) rfl ?_
    exact ⟨_, _, [], by (rw [E1.out.1, E1.out.2.1, E1.out.2.2.1, E1.out.2.2.2, E2.out]; rfl), by rw [E1.out.1]; exact OwnN.nil _ _ _ _ _ _, ((((M2.out).setCell (p := ⟨w.heap.size, 0, none⟩) (Nat.le_refl _) _).setCell (p := ⟨w.heap.size, 1, none⟩) (Nat.le_refl _) _).setCell (p := ⟨w.heap.size, 2, none⟩) (Nat.le_refl _) _)⟩
  cases hi : spotOk xss l i
  · have hv : firstV v0 v1 = .iface 165 (.pointer (some (ad 0))) := by rw [← V0.out, ← V1.out, ha, hi]; rfl
    rw [hv]
    have h0 : akC xss l i = 2 := by simp [akC, ha, hi]
    have E1 := Lib.hid (ro_no (xss := xss) (l := l) (i := i) (by omega))
    have E2 := Lib.hid h0
    have d0 : w3.cell? ⟨w.heap.size, 0, none⟩ = some (.int .u8 0) := M1.out.cell 0
    have d1 : w3.cell? ⟨w.heap.size, 1, none⟩ = some (.int .i16 0) := M1.out.cell 1
    have d2 : w3.cell? ⟨w.heap.size, 2, none⟩ = some (.int .i16 0) := M1.out.cell 2
    have f0 : w3.frozen? ⟨w.heap.size, 0, none⟩ = false := M1.out.frozen 0
    have f1 : w3.frozen? ⟨w.heap.size, 1, none⟩ = false := M1.out.frozen 1
    have f2 : w3.frozen? ⟨w.heap.size, 2, none⟩ = false := M1.out.frozen 2
    clear hv h0
    go_wp2_with fail
    refine (codeOf_0 (EW.less (HE.out.below M2.out (Nat.le_refl _)) (by omega))).mono ?_
    rintro e w4 ⟨rfl, rfl⟩
    go_wp2
    refine bodyPost_ret (v := .tuple #[.slice none 0 0, .agg #[.int .u8 0, .int .i16 0, .int .i16 0], .int .i64 0, .int .i64 2]) (by simp [results, Tryd.results11, go_sem, *]) rfl ?_
    exact ⟨_, _, [], by (rw [E1.out.1, E1.out.2.1, E1.out.2.2.1, E1.out.2.2.2, E2.out]; rfl), by rw [E1.out.1]; exact OwnN.nil _ _ _ _ _ _, ((((M2.out).setCell (p := ⟨w.heap.size, 0, none⟩) (Nat.le_refl _) _).setCell (p := ⟨w.heap.size, 1, none⟩) (Nat.le_refl _) _).setCell (p := ⟨w.heap.size, 2, none⟩) (Nat.le_refl _) _)⟩
  have hv : firstV v0 v1 = .nilIface := by rw [← V0.out, ← V1.out, ha, hi]; rfl
  rw [hv]
  have h0 : akC xss l i = 0 := by simp [akC, ha, hi]
  obtain ⟨h1, h2, h3⟩ := akC_yes h0
  obtain ⟨k, rfl, hk⟩ := inB_nat h2
  obtain ⟨j, rfl, hj⟩ := inB_nat h3
  obtain ⟨xs, hxs⟩ : ∃ xs, lnAt xss k = xs := ⟨_, rfl⟩
  have hE1 := ro_yes h0 hxs
  have hxk := lnAt_nat hk
  rw [hxs] at hxk hj
  have HXk := Lib.hid hxk
  have HJ := Lib.hid hj
  have HL8 := Lib.hid (rkOk_len h1)
  have H6 : Hid (∀ xs ∈ xss, xs.length ≤ 6) := fun xs h => (rkOk_lane h1 h).1
  obtain ⟨L, hL⟩ : ∃ L, rcR xss k xs j = L := ⟨_, rfl⟩
  obtain ⟨⟨⟨k1, y1⟩, n1⟩, hvv⟩ : ∃ x, rcV xss k xs j = x := ⟨_, rfl⟩
  obtain ⟨m, hm⟩ : ∃ m : Nat, rcM xss k xs j = m := ⟨_, rfl⟩
  obtain ⟨cd, hcd⟩ : ∃ cd, rcK xss k xs j = cd := ⟨_, rfl⟩
  rw [hL, hvv, hm, hcd] at hE1
  have E1 := Lib.hid hE1
  have HL := Lib.hid hL
  have HVv := Lib.hid hvv
  have HM := Lib.hid hm
  have HCd := Lib.hid hcd
  clear hv ha hi V0 V1 P0 P1 h0 h1 h2 h3 hxs hxk hj hL hvv hm hcd hk hE1
  go_wp2_with fail
  refine (copied_any xss _ c _ hl HX.out (HR.out.keep M2.out)).mono ?_
  rintro e w4 ⟨A1, c1, hs, rfl, hN, hb4⟩
  have HC4 : Hid (Blk w4 w.heap.size 30 #[.int .u8 0, .int .i16 0, .int .i16 0]) := M1.out.keep hb4
  have HB4 : Hid (Below w.heap.size w w4) := M2.out.trans (hb4.mono M2.out.size)
  have HSy : Hid (w.heap.size < w3.heap.size) := M1.out.lt
  have hre := reach_any xss hs w3.heap.size A1 c1 k j xs ad w3 w4 HL8.out H6.out HW.out hN hb4.size HXk.out HJ.out (Nat.le_refl _) (HE.out.below M2.out (Nat.le_refl _)) hb4
  rw [HVv.out, HM.out] at hre
  have HRe := Lib.hid hre
  clear hN hb4 hre M1 M2
  go_wp2_with fail
  refine HRe.out.mono ?_
  rintro e w5 ⟨hs5, he, hN5, hb5⟩
  obtain ⟨ev, hev⟩ : ∃ v, rcE ad xss k xs j = v := ⟨_, rfl⟩
  rw [hev] at he
  have he2 : e = .returned (.tuple #[.agg #[.int .u8 k1, .int .i16 y1, .int .i16 n1], .int .i64 (m : Int), ev]) := he
  subst he2
  have HN5 := Lib.hid hN5
  have HC5 := Lib.hid (HC4.out.below hb5 HSy.out)
  have HB5 := Lib.hid (HB4.out.trans (hb5.mono (Nat.le_of_lt HSy.out)))
  clear he hN5 hb5 HC4 HB4 HRe
  go_upto_region 6 with fail
  have hA6 : Below w5.heap.size w5 (w5.alloc (.cells #[.int .u8 k1, .int .i16 y1, .int .i16 n1] 30)) := (Below.refl _ w5).alloc (Nat.le_refl _) _
  have hK6 : Blk (w5.alloc (.cells #[.int .u8 k1, .int .i16 y1, .int .i16 n1] 30)) w5.heap.size 30 #[.int .u8 k1, .int .i16 y1, .int .i16 n1] := Blk.new w5 _ _
  obtain ⟨W6, hW6⟩ : ∃ W6, w5.alloc (.cells #[.int .u8 k1, .int .i16 y1, .int .i16 n1] 30) = W6 := ⟨_, rfl⟩
  rw [hW6] at hA6 hK6 ⊢
  have HC6 := Lib.hid (HC5.out.keep hA6)
  have HK6 := Lib.hid hK6
  have HB6 := Lib.hid (HB5.out.trans (hA6.mono HB5.out.size))
  have HE6 : Hid (EW 7 W6 ad) := HE.out.below HB6.out (Nat.le_refl _)
  have HNW : Hid (∀ r, rcS xss k xs (xs.length - 1 - j) = some r → OwnN W6 w3.heap.size 44 30 3 wcells A1 c1 hs5 (r.set k (xs.take j))) := fun r h => (HN5.out r h).keep hA6
  have HHne : Hid (w.heap.size < w5.heap.size) := HC5.out.lt
  clear hA6 hK6 hW6 HN5 HC5 HB5
  have d0 : W6.cell? ⟨w.heap.size, 0, none⟩ = some (.int .u8 0) := HC6.out.cell 0
  have d1 : W6.cell? ⟨w.heap.size, 1, none⟩ = some (.int .i16 0) := HC6.out.cell 1
  have d2 : W6.cell? ⟨w.heap.size, 2, none⟩ = some (.int .i16 0) := HC6.out.cell 2
  have f0 : W6.frozen? ⟨w.heap.size, 0, none⟩ = false := HC6.out.frozen 0
  have f1 : W6.frozen? ⟨w.heap.size, 1, none⟩ = false := HC6.out.frozen 1
  have f2 : W6.frozen? ⟨w.heap.size, 2, none⟩ = false := HC6.out.frozen 2
  cases hS : rcS xss k xs (xs.length - 1 - j) with
  | none =>
    obtain ⟨z1, z2, z3, z4⟩ := rcB_no hS
    rw [rcE_no hS] at hev
    subst hev
    rw [HL.out] at z1
    rw [HVv.out] at z2
    rw [HM.out] at z3
    rw [HCd.out] at z4
    simp only [Prod.mk.injEq] at z2
    obtain ⟨⟨rfl, rfl⟩, rfl⟩ := z2
    subst z1 z3 z4
    clear hS
    go_wp2_with fail
    refine (codeOf_1 (EW.less HE6.out (by omega))).mono ?_
    rintro e w7 ⟨rfl, rfl⟩
    go_wp2
    refine bodyPost_ret (v := .tuple #[.slice none 0 0, .agg #[.int .u8 0, .int .i16 0, .int .i16 0], .int .i64 0, .int .i64 3]) (by simp [results, Tryd.results11, go_sem, *]) rfl ?_
    exact ⟨_, _, [], by (rw [E1.out.1, E1.out.2.1, E1.out.2.2.1, E1.out.2.2.2]; rfl), by rw [E1.out.1]; exact OwnN.nil _ _ _ _ _ _, ((((HB6.out).setCell (p := ⟨w.heap.size, 0, none⟩) (Nat.le_refl _) _).setCell (p := ⟨w.heap.size, 1, none⟩) (Nat.le_refl _) _).setCell (p := ⟨w.heap.size, 2, none⟩) (Nat.le_refl _) _)⟩
  | some r =>
    have hxj : xs[j]? = some xs[j] := List.getElem?_eq_getElem HJ.out
    obtain ⟨z1, z2, z3, z4⟩ := rcB_yes hS hxj
    rw [(rc_yes hS hxj ad).2.2] at hev
    subst hev
    rw [HL.out] at z1
    rw [HCd.out] at z4
    have hN6 := HNW.out r hS
    rw [← z1] at hN6
    have HLn : Hid (L.length = xss.length) := by show _ = _; rw [z1, List.length_set]; exact (rcS_ok HXk.out H6.out HW.out _ (by omega) r hS).1
    subst z4
    have HN6 := Lib.hid hN6
    have hd1 : w.heap.size ≠ w5.heap.size := by have := HHne.out; omega
    have hd2 : w5.heap.size ≠ w.heap.size := fun e => hd1 e.symm
    have e0 : W6.cell? ⟨w5.heap.size, 0, none⟩ = some (.int .u8 k1) := HK6.out.cell 0
    have e1 : W6.cell? ⟨w5.heap.size, 1, none⟩ = some (.int .i16 y1) := HK6.out.cell 1
    have e2 : W6.cell? ⟨w5.heap.size, 2, none⟩ = some (.int .i16 n1) := HK6.out.cell 2
    have hlt : ∀ k, k = w.heap.size → k < w3.heap.size := fun k e => by have := HSy.out; omega
    have HN7 := Lib.hid ((((HN6.out.only (only_set W6 w.heap.size 0 (.int .u8 k1)) hlt).only (only_set _ w.heap.size 1 (.int .i16 y1)) hlt).only (only_set _ w.heap.size 2 (.int .i16 n1)) hlt).keep ((Below.refl _ _).drew))
    have HB7 : Hid (Below w.heap.size w (((W6.setCell ⟨w.heap.size, 0, none⟩ (.int .u8 k1)).setCell ⟨w.heap.size, 1, none⟩ (.int .i16 y1)).setCell ⟨w.heap.size, 2, none⟩ (.int .i16 n1)).drew) := ((((HB6.out).setCell (p := ⟨w.heap.size, 0, none⟩) (Nat.le_refl _) _).setCell (p := ⟨w.heap.size, 1, none⟩) (Nat.le_refl _) _).setCell (p := ⟨w.heap.size, 2, none⟩) (Nat.le_refl _) _).drew
    clear hN6 hlt z1 z2 z3 hxj hS HNW HN6 HB6 HC6 HK6
    go_wp2_with fail
    go_region
    go_wp2
    refine bodyPost_ret (v := .tuple #[.slice A1 xss.length c1, .agg #[.int .u8 k1, .int .i16 y1, .int .i16 n1], .int .i64 m, .int .i64 0]) (by simp [results, Tryd.results11, go_sem, *]) rfl ?_
    exact ⟨_, _, hs5, by (rw [E1.out.1, E1.out.2.1, E1.out.2.2.1, E1.out.2.2.2, HLn.out]; rfl), by rw [E1.out.1]; exact HN7.out.base (Nat.le_of_lt HSy.out), HB7.out⟩

end Go.Proofs.YtmfdgpinohbckaaDoor
