/-
  The program's contract of TakeFront.
-/
import Derived.Test.YtceinefoljcgkaaDoorTf1
namespace Go.Proofs.YtceinefoljcgkaaDoor
open Go.ChangeShapes Go.WideShapes Go.ChangeAt Go.RowKit Go.Deep

set_option maxRecDepth 100000 in
set_option maxHeartbeats 4000000 in
theorem implTakeFront_any (xss : List (List Wnt)) (hwf : ∀ xs ∈ xss, ∀ x ∈ xs, wfW x) (A : Option Addr) (c : Nat) (l : Int) (ad : Nat → Addr) (w : World) (hl : xss.length ≤ 1048576) (hx : ∀ xs ∈ xss, xs.length ≤ 1048576) (hr : RdN w w.heap.size wcells A xss) (hE : EW 7 w ad) :
    Calls Tryd.prog 27 #[.slice A xss.length c, .int .i64 l] w fun e w' => ∃ A' c' hs, e = .returned (.tuple #[.slice A' (tfL xss l).length c', .agg (wcells (tfX xss l)).toArray, .int .i64 (tfC xss l)]) ∧ OwnN w' w.heap.size 59 45 3 wcells A' c' hs (tfL xss l) ∧ Below w.heap.size w w' := by
  have HR := Lib.hid hr
  have HW := Lib.hid hwf
  have HX := Lib.hid hx
  have HE := Lib.hid hE
  clear hr hwf hx hE
  have h1 : Blk (w.alloc (.cells #[.int .u8 0, .int .i16 0, .int .i16 0] 45)) w.heap.size 45 #[.int .u8 0, .int .i16 0, .int .i16 0] := Blk.new w _ _
  have h2 : Below w.heap.size w (w.alloc (.cells #[.int .u8 0, .int .i16 0, .int .i16 0] 45)) := (Below.refl _ w).alloc (Nat.le_refl _) _
  obtain ⟨W0, hW0⟩ : ∃ W0, w.alloc (.cells #[.int .u8 0, .int .i16 0, .int .i16 0] 45) = W0 := ⟨_, rfl⟩
  rw [hW0] at h1 h2
  have H1 := Lib.hid h1
  have H2 := Lib.hid h2
  clear h1 h2
  go_enter Tryd.func27, Tryd.ntmps27
  go_wp2_with fail
  clear hW0
  refine (checkRack_any xss A c ad _ hl HX.out (HR.out.keep H2.out) (HE.out.below H2.out (Nat.le_refl _))).mono ?_
  rintro e w1 ⟨rfl, hb⟩
  have G1 : Hid (Blk w1 w.heap.size 45 #[.int .u8 0, .int .i16 0, .int .i16 0]) := H1.out.keep hb
  have G2 : Hid (Below w.heap.size w w1) := H2.out.trans (hb.mono H2.out.size)
  clear hb H1 H2
  obtain ⟨v0, hv0⟩ : ∃ v, erV ad 5 (rkOk xss) = v := ⟨_, rfl⟩
  have hp0 := erV_isE ad 5 (rkOk xss)
  rw [hv0] at hp0 ⊢
  have V0 := Lib.hid hv0
  have P0 := Lib.hid hp0
  clear hv0 hp0
  go_wp2_with fail
  refine (checkLane_any xss.length c A l ad w1 hl (HE.out.below G2.out (Nat.le_refl _))).mono ?_
  rintro e w2 ⟨rfl, hb⟩
  have K1 : Hid (Blk w2 w.heap.size 45 #[.int .u8 0, .int .i16 0, .int .i16 0]) := G1.out.keep hb
  have K2 : Hid (Below w.heap.size w w2) := G2.out.trans (hb.mono G2.out.size)
  clear hb G1 G2
  obtain ⟨v1, hv1⟩ : ∃ v, erV ad 0 (inB l xss.length) = v := ⟨_, rfl⟩
  have hp1 := erV_isE ad 0 (inB l xss.length)
  rw [hv1] at hp1 ⊢
  have V1 := Lib.hid hv1
  have P1 := Lib.hid hp1
  clear hv1 hp1
  go_wp2_with (refine wpList_twoErrs rfl (.tmp 11) (.tmp 14) rfl P0.out P1.out rfl rfl ?_)
  have q0 := new_cell2 w2 v0 v1 62
  refine (first2_any P0.out P1.out _ _ _ q0.1 q0.2).mono ?_
  rintro e w9 ⟨rfl, rfl⟩
  have L2 : Below w.heap.size w (w2.alloc (.cells #[v0, v1] 62)) := K2.out.alloc K2.out.size _
  have L1 : Blk (w2.alloc (.cells #[v0, v1] 62)) w.heap.size 45 #[.int .u8 0, .int .i16 0, .int .i16 0] := K1.out.keep ((Below.refl _ _).alloc (Nat.le_refl _) _)
  obtain ⟨w3, hw3⟩ : ∃ w3, w2.alloc (.cells #[v0, v1] 62) = w3 := ⟨_, rfl⟩
  rw [hw3] at L1 L2 ⊢
  have M1 := Lib.hid L1
  have M2 := Lib.hid L2
  clear q0 hw3 L1 L2 K1 K2
  cases ha : rkOk xss
  · have hv : firstV v0 v1 = .iface 135 (.pointer (some (ad 5))) := by rw [← V0.out, ha]; rfl
    rw [hv]
    have h0 : tfC xss l = 1 := by simp [tfC, ha]
    have E1 := Lib.hid h0
    have E2 := Lib.hid (tf_no (xss := xss) (l := l) (by omega))
    have d0 : w3.cell? ⟨w.heap.size, 0, none⟩ = some (.int .u8 0) := M1.out.cell 0
    have d1 : w3.cell? ⟨w.heap.size, 1, none⟩ = some (.int .i16 0) := M1.out.cell 1
    have d2 : w3.cell? ⟨w.heap.size, 2, none⟩ = some (.int .i16 0) := M1.out.cell 2
    have f0 : w3.frozen? ⟨w.heap.size, 0, none⟩ = false := M1.out.frozen 0
    have f1 : w3.frozen? ⟨w.heap.size, 1, none⟩ = false := M1.out.frozen 1
    have f2 : w3.frozen? ⟨w.heap.size, 2, none⟩ = false := M1.out.frozen 2
    clear hv h0
    go_wp2_with fail
    refine (codeOf_5 (HE.out.below M2.out (Nat.le_refl _))).mono ?_
    rintro e w4 ⟨rfl, rfl⟩
    go_wp2
    refine bodyPost_ret (v := .tuple #[.slice none 0 0, .agg #[.int .u8 0, .int .i16 0, .int .i16 0], .int .i64 1]) (by simp [results, Tryd.results27, go_sem, *]) rfl ?_
    exact ⟨_, _, [], by (rw [E1.out, E2.out.1, E2.out.2]; rfl), by rw [E2.out.1]; exact OwnN.nil _ _ _ _ _ _, (((M2.out).setCell (p := ⟨w.heap.size, 0, none⟩) (Nat.le_refl _) _).setCell (p := ⟨w.heap.size, 1, none⟩) (Nat.le_refl _) _).setCell (p := ⟨w.heap.size, 2, none⟩) (Nat.le_refl _) _⟩
  cases hi : inB l xss.length
  · have hv : firstV v0 v1 = .iface 135 (.pointer (some (ad 0))) := by rw [← V0.out, ← V1.out, ha, hi]; rfl
    rw [hv]
    have h0 : tfC xss l = 2 := by simp [tfC, ha, hi]
    have E1 := Lib.hid h0
    have E2 := Lib.hid (tf_no (xss := xss) (l := l) (by omega))
    have d0 : w3.cell? ⟨w.heap.size, 0, none⟩ = some (.int .u8 0) := M1.out.cell 0
    have d1 : w3.cell? ⟨w.heap.size, 1, none⟩ = some (.int .i16 0) := M1.out.cell 1
    have d2 : w3.cell? ⟨w.heap.size, 2, none⟩ = some (.int .i16 0) := M1.out.cell 2
    have f0 : w3.frozen? ⟨w.heap.size, 0, none⟩ = false := M1.out.frozen 0
    have f1 : w3.frozen? ⟨w.heap.size, 1, none⟩ = false := M1.out.frozen 1
    have f2 : w3.frozen? ⟨w.heap.size, 2, none⟩ = false := M1.out.frozen 2
    clear hv h0
    go_wp2_with fail
    refine (codeOf_0 (EW.less (HE.out.below M2.out (Nat.le_refl _)) (by omega))).mono ?_
    rintro e w4 ⟨rfl, rfl⟩
    go_wp2
    refine bodyPost_ret (v := .tuple #[.slice none 0 0, .agg #[.int .u8 0, .int .i16 0, .int .i16 0], .int .i64 2]) (by simp [results, Tryd.results27, go_sem, *]) rfl ?_
    exact ⟨_, _, [], by (rw [E1.out, E2.out.1, E2.out.2]; rfl), by rw [E2.out.1]; exact OwnN.nil _ _ _ _ _ _, (((M2.out).setCell (p := ⟨w.heap.size, 0, none⟩) (Nat.le_refl _) _).setCell (p := ⟨w.heap.size, 1, none⟩) (Nat.le_refl _) _).setCell (p := ⟨w.heap.size, 2, none⟩) (Nat.le_refl _) _⟩
  have hv : firstV v0 v1 = .nilIface := by rw [← V0.out, ← V1.out, ha, hi]; rfl
  rw [hv]
  obtain ⟨k, rfl, hk⟩ := inB_nat hi
  have HA := Lib.hid ha
  have HI1 := Lib.hid hi
  clear hv ha hi V0 V1 P0 P1
  obtain ⟨xs, hxs⟩ : ∃ xs, lnAt xss k = xs := ⟨_, rfl⟩
  have hxk := lnAt_nat hk
  rw [hxs] at hxk
  have HXs := Lib.hid hxs
  have HXk := Lib.hid hxk
  obtain ⟨b, o, a0, c', rfl, hb, hc9, -⟩ := (HR.out.keep M2.out).at_ hxk
  have hxl := HX.out xs (List.mem_of_getElem? hxk)
  have hk0 : (0 : Int) ≤ (k : Int) := Int.natCast_nonneg _
  have hk8 : (k : Int) < xss.length := by omega
  clear hxk hxs
  by_cases h6 : xs.length = 0
  · have h0 : tfC xss (k : Int) = 6 := by simp [tfC, HA.out, HI1.out, HXs.out, h6]
    have E1 := Lib.hid h0
    have E2 := Lib.hid (tf_no (xss := xss) (l := (k : Int)) (by omega))
    have d0 : w3.cell? ⟨w.heap.size, 0, none⟩ = some (.int .u8 0) := M1.out.cell 0
    have d1 : w3.cell? ⟨w.heap.size, 1, none⟩ = some (.int .i16 0) := M1.out.cell 1
    have d2 : w3.cell? ⟨w.heap.size, 2, none⟩ = some (.int .i16 0) := M1.out.cell 2
    have f0 : w3.frozen? ⟨w.heap.size, 0, none⟩ = false := M1.out.frozen 0
    have f1 : w3.frozen? ⟨w.heap.size, 1, none⟩ = false := M1.out.frozen 1
    have f2 : w3.frozen? ⟨w.heap.size, 2, none⟩ = false := M1.out.frozen 2
    have c1 : w3.cell? ⟨1, 0, none⟩ = some (.iface 135 (.pointer (some (ad 4)))) := (HE.out.below M2.out (Nat.le_refl _)).cell 4 (by omega)
    have h6' : (xs.length : Int) = 0 := by omega
    clear h0 h6
    go_wp2_with fail
    refine (codeOf_4 (EW.less (HE.out.below M2.out (Nat.le_refl _)) (by omega))).mono ?_
    rintro e w4 ⟨rfl, rfl⟩
    go_wp2
    refine bodyPost_ret (v := .tuple #[.slice none 0 0, .agg #[.int .u8 0, .int .i16 0, .int .i16 0], .int .i64 6]) (by simp [results, Tryd.results27, go_sem, *]) rfl ?_
    exact ⟨_, _, [], by (rw [E1.out, E2.out.1, E2.out.2]; rfl), by rw [E2.out.1]; exact OwnN.nil _ _ _ _ _ _, (((M2.out).setCell (p := ⟨w.heap.size, 0, none⟩) (Nat.le_refl _) _).setCell (p := ⟨w.heap.size, 1, none⟩) (Nat.le_refl _) _).setCell (p := ⟨w.heap.size, 2, none⟩) (Nat.le_refl _) _⟩
  obtain ⟨j, hj⟩ : ∃ j, j + 1 = xs.length := ⟨xs.length - 1, by omega⟩
  obtain ⟨⟨⟨k1, y1⟩, n1⟩, hxj⟩ : ∃ x, xs[j]? = some x := ⟨_, List.getElem?_eq_getElem (by omega)⟩
  have h6' : ((xs.length : Int) == 0) = false := by simp only [beq_eq_false_iff_ne, ne_eq]; omega
  have hc : tfC xss k = 0 := by simp [tfC, HA.out, HI1.out, HXs.out, h6]
  have E1 := Lib.hid hc
  have E2 : Hid (tfL xss k = xss.set k (xs.take j) ∧ tfX xss k = ((k1, y1), n1)) := by
    show tfL xss k = xss.set k (xs.take j) ∧ tfX xss k = ((k1, y1), n1)
    have := tf_yes hc (j := j) (x := ((k1, y1), n1)) (by rw [HXs.out]; exact hj) (by rw [HXs.out]; exact hxj)
    rw [HXs.out] at this; exact this
  clear hc h6
  go_wp2_with fail
  clear hc9 hb
  refine (copied_any xss _ c _ hl HX.out (HR.out.keep M2.out)).mono ?_
  rintro e w4 ⟨A1, c1, hs, rfl, hN, hb4⟩
  have HN := Lib.hid hN
  have HC4 : Hid (Blk w4 w.heap.size 45 #[.int .u8 0, .int .i16 0, .int .i16 0]) := M1.out.keep hb4
  have HB4 : Hid (Below w.heap.size w w4) := M2.out.trans (hb4.mono M2.out.size)
  have HSz : Hid (w3.heap.size ≤ w4.heap.size) := hb4.size
  have HSy : Hid (w.heap.size < w3.heap.size) := M1.out.lt
  clear hN hb4 M1 M2
  go_wp2_with fail
  refine (take_any xss hs w3.heap.size A1 c1 k j ((k1, y1), n1) xs w4 HN.out HSz.out HXk.out hl hxl hj hxj).mono ?_
  rintro e w5 ⟨hs', he, hN2, hb5⟩
  have he2 : e = .returned (.agg #[.int .u8 k1, .int .i16 y1, .int .i16 n1]) := he
  subst he2
  have hC2 := HC4.out.below hb5 HSy.out
  have hB2 := HB4.out.trans (hb5.mono (by have := HSy.out; omega))
  have hlt : ∀ k, k = w.heap.size → k < w3.heap.size := fun k e => by have := HSy.out; omega
  have hsz5 : w.heap.size < w5.heap.size := hC2.lt
  have HSw : Hid (w.heap.size ≤ w3.heap.size) := Nat.le_of_lt HSy.out
  clear HN HC4 HB4 HSz HSy hb5
  go_wp2_with fail
  have h5 : Below w5.heap.size w5 (w5.alloc (.cells #[.int .u8 k1, .int .i16 y1, .int .i16 n1] 45)) := (Below.refl _ w5).alloc (Nat.le_refl _) _
  have h6 : Blk (w5.alloc (.cells #[.int .u8 k1, .int .i16 y1, .int .i16 n1] 45)) w5.heap.size 45 #[.int .u8 k1, .int .i16 y1, .int .i16 n1] := Blk.new w5 _ _
  have HN3 := Lib.hid (hN2.keep h5)
  have HB3 : Hid (Below w.heap.size w (w5.alloc (.cells #[.int .u8 k1, .int .i16 y1, .int .i16 n1] 45))) := hB2.trans (h5.mono hB2.size)
  have h7 := hC2.keep h5
  clear hN2 hB2 h5 hC2
  obtain ⟨W6, hW6⟩ : ∃ W6, w5.alloc (.cells #[.int .u8 k1, .int .i16 y1, .int .i16 n1] 45) = W6 := ⟨_, rfl⟩
  rw [hW6] at h6 h7 HN3 HB3 ⊢
  clear hW6
  have e0 : W6.cell? ⟨w5.heap.size, 0, none⟩ = some (.int .u8 k1) := h6.cell 0
  have e1 : W6.cell? ⟨w5.heap.size, 1, none⟩ = some (.int .i16 y1) := h6.cell 1
  have e2 : W6.cell? ⟨w5.heap.size, 2, none⟩ = some (.int .i16 n1) := h6.cell 2
  have d0 : W6.cell? ⟨w.heap.size, 0, none⟩ = some (.int .u8 0) := h7.cell 0
  have d1 : W6.cell? ⟨w.heap.size, 1, none⟩ = some (.int .i16 0) := h7.cell 1
  have d2 : W6.cell? ⟨w.heap.size, 2, none⟩ = some (.int .i16 0) := h7.cell 2
  have f0 : W6.frozen? ⟨w.heap.size, 0, none⟩ = false := h7.frozen 0
  have f1 : W6.frozen? ⟨w.heap.size, 1, none⟩ = false := h7.frozen 1
  have f2 : W6.frozen? ⟨w.heap.size, 2, none⟩ = false := h7.frozen 2
  have hd1 : w.heap.size ≠ w5.heap.size := by omega
  have hd2 : w5.heap.size ≠ w.heap.size := by omega
  clear h6 h7
  have HN4 := Lib.hid ((((HN3.out.only (only_set W6 w.heap.size 0 (.int .u8 k1)) hlt).only (only_set _ w.heap.size 1 (.int .i16 y1)) hlt).only (only_set _ w.heap.size 2 (.int .i16 n1)) hlt).keep ((Below.refl _ _).drew))
  have HB4 : Hid (Below w.heap.size w (((W6.setCell ⟨w.heap.size, 0, none⟩ (.int .u8 k1)).setCell ⟨w.heap.size, 1, none⟩ (.int .i16 y1)).setCell ⟨w.heap.size, 2, none⟩ (.int .i16 n1)).drew) := ((((HB3.out).setCell (p := ⟨w.heap.size, 0, none⟩) (Nat.le_refl _) _).setCell (p := ⟨w.heap.size, 1, none⟩) (Nat.le_refl _) _).setCell (p := ⟨w.heap.size, 2, none⟩) (Nat.le_refl _) _).drew
  clear HN3 HB3 hlt
  go_region
  go_wp2
  refine bodyPost_ret (v := .tuple #[.slice A1 xss.length c1, .agg #[.int .u8 k1, .int .i16 y1, .int .i16 n1], .int .i64 0]) (by simp [results, Tryd.results27, go_sem, *]) rfl ?_
  exact ⟨_, _, hs', by (rw [E1.out, E2.out.1, E2.out.2, List.length_set]; rfl), by rw [E2.out.1]; exact HN4.out.base HSw.out, HB4.out⟩
end Go.Proofs.YtceinefoljcgkaaDoor
