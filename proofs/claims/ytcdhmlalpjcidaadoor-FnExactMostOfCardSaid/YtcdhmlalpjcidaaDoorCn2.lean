/-
  MostOf: the model's contract. Condition: none but that the crate's numbers fit their kinds.
-/
import Derived.Test.YtcdhmlalpjcidaaDoorCn1
import Derived.BigQuiet
namespace Go.Proofs.YtcdhmlalpjcidaaDoor
open Go.ChangeShapes Go.WideShapes Go.ChangeAt Go.RowKit Go.Deep

/-- What MostOf comes to. -/
def moR (x : Crt) (C : List Wnt) : Wnt × Int := if okC x.1 = true then (if C = [] then (((0, 0), 0), 6) else (mxC C, 0)) else (((0, 0), 0), 1)
theorem mo_bad {x : Crt} (C : List Wnt) (h : okC x.1 = false) : moR x C = (((0, 0), 0), 1) := by simp [moR, h]
theorem mo_none {x : Crt} {C : List Wnt} (h : okC x.1 = true) (h0 : C = []) : moR x C = (((0, 0), 0), 6) := by simp [moR, h, h0]
theorem mo_some {x : Crt} {C : List Wnt} (h : okC x.1 = true) (h0 : C ≠ []) : moR x C = (mxC C, 0) := by simp [moR, h, h0]
theorem own_srt {w : World} {b : Nat} {v : Value} {X : List Bot} (h : w.ownsRow b 26 2 v X.length (ccells X)) : ∃ ao c, v = .slice ao X.length c ∧ (ao = none → X.length = 0 ∧ c = 0) ∧ (∀ ad, ao = some ad → ∀ j u, (ccells X)[j]? = some u → w.cell? (ad.add j) = some u) ∧ ∀ ad, ao = some ad → ad.block < w.heap.size := by
  rcases OB.of h with ⟨h1, h2⟩ | ⟨g, cap, h1, h2, h3⟩
  · exact ⟨none, 0, by rw [h1, h2]; rfl, fun _ => ⟨(by rw [h2]; rfl), rfl⟩, fun ad e => (by cases e), fun ad e => (by cases e)⟩
  · refine ⟨some ⟨g, 0, none⟩, cap, h1, fun e => (by cases e), fun ad e j u hu => ?_, fun ad e => ?_⟩
    · obtain rfl := Option.some.inj e
      have e2 : (⟨g, 0, none⟩ : Addr).add j = ⟨g, j, none⟩ := by cases j <;> simp [Addr.add]
      rw [e2]
      exact h3.cell hu
    · obtain rfl := Option.some.inj e
      exact h3.lt

set_option maxRecDepth 100000 in
set_option maxHeartbeats 8000000 in
theorem specMost_any (x : Crt) (C : List Wnt) (hC : IsC (mult x) C) (w : World) :
    Calls Tryd.prog 7 #[.agg (ccells x.1).toArray] w fun e w' => e = .returned (.tuple #[.agg #[.int .u8 (moR x C).1.1.1, .int .i16 (moR x C).1.1.2], .int .i64 (moR x C).1.2, .int .i64 (moR x C).2]) ∧ Below w.heap.size w w' := by
  have HC := Lib.hid hC
  clear hC
  have h1 : CBlk ((w.alloc (.cells (ccells x.1).toArray 30)).alloc (.cells #[.int .u8 0, .int .i16 0] 26)) w.heap.size 30 x.1 := (CBlk.new w 30 x.1).alloc _
  have h2 : Blk ((w.alloc (.cells (ccells x.1).toArray 30)).alloc (.cells #[.int .u8 0, .int .i16 0] 26)) (w.heap.size + 1) 26 #[.int .u8 0, .int .i16 0] := by
    have := Blk.new (w.alloc (.cells (ccells x.1).toArray 30)) 26 #[.int .u8 0, .int .i16 0]
    rw [World.size_alloc] at this
    exact this
  have h3 : Below w.heap.size w ((w.alloc (.cells (ccells x.1).toArray 30)).alloc (.cells #[.int .u8 0, .int .i16 0] 26)) := ((Below.refl _ w).alloc (Nat.le_refl _) _).alloc (by simp) _
  obtain ⟨W0, hW0⟩ : ∃ u, (w.alloc (.cells (ccells x.1).toArray 30)).alloc (.cells #[.int .u8 0, .int .i16 0] 26) = u := ⟨_, rfl⟩
  rw [hW0] at h1 h2 h3
  have H1 := Lib.hid h1
  have H2 := Lib.hid h2
  have H3 := Lib.hid h3
  clear h1 h2 h3
  go_enter Tryd.func7, Tryd.ntmps7
  go_wp2_with fail
  clear hW0
  refine (l01Ok_any x.1 x.2 _ _ H1.out).mono ?_
  rintro e w1 ⟨rfl, hb⟩
  have K1 : Hid (CBlk w1 w.heap.size 30 x.1) := H1.out.below hb H1.out.lt
  have K2 : Hid (Blk w1 (w.heap.size + 1) 26 #[.int .u8 0, .int .i16 0]) := H2.out.keep hb
  have K3 : Hid (Below w.heap.size w w1) := H3.out.trans (hb.mono H3.out.size)
  clear hb H1 H2 H3
  cases hok : okC x.1
  · have E := Lib.hid (mo_bad C hok)
    have d0 : w1.cell? ⟨w.heap.size + 1, 0, none⟩ = some (.int .u8 0) := K2.out.cell 0
    have d1 : w1.cell? ⟨w.heap.size + 1, 1, none⟩ = some (.int .i16 0) := K2.out.cell 1
    have f0 : w1.frozen? ⟨w.heap.size + 1, 0, none⟩ = false := K2.out.frozen 0
    have f1 : w1.frozen? ⟨w.heap.size + 1, 1, none⟩ = false := K2.out.frozen 1
    clear hok
    go_wp2
    refine bodyPost_ret (v := .tuple #[.agg #[.int .u8 0, .int .i16 0], .int .i64 0, .int .i64 1]) (by simp [results, Tryd.results7, go_sem, *]) rfl ?_
    exact ⟨by rw [E.out], (K3.out.setCell (p := ⟨w.heap.size + 1, 0, none⟩) (Nat.le_succ _) _).setCell (p := ⟨w.heap.size + 1, 1, none⟩) (Nat.le_succ _) _⟩
  have HOk := Lib.hid hok
  clear hok
  go_wp2_with fail
  refine (l01All_any x.1 x.2 _ _ K1.out).mono ?_
  rintro e w2 ⟨v2, rfl, ho2, hb⟩
  obtain ⟨ao, c2, rfl, hn2, hc2, hl2⟩ := own_srt ho2
  have L2 : Hid (Blk w2 (w.heap.size + 1) 26 #[.int .u8 0, .int .i16 0]) := K2.out.keep hb
  have L3 : Hid (Below w.heap.size w w2) := K3.out.trans (hb.mono K3.out.size)
  have hX12 := allB_length x.1 12
  have HSr := Lib.hid (l01Sorted_any (allB x.1 12) (allB_wf x.2) (by omega) ao c2 w2 hn2 hc2 hl2)
  have HX12 : Hid ((allB x.1 12).length ≤ 12) := hX12
  clear hb ho2 hn2 hc2 hl2 K1 K2 K3 hX12
  go_wp2_with fail
  refine HSr.out.mono ?_
  rintro e w3 ⟨g, cap, Y, rfl, hp, hs, hg, hOB, hb⟩
  have M2 : Hid (Blk w3 (w.heap.size + 1) 26 #[.int .u8 0, .int .i16 0]) := L2.out.keep hb
  have M3 : Hid (Below w.heap.size w w3) := L3.out.trans (hb.mono L3.out.size)
  have hY12 : Y.length ≤ 12 := by rw [hp.length_eq]; exact HX12.out
  have HCo := Lib.hid (l01Counts_any Y hs hY12 g cap w3 hOB)
  have HCn : Hid (∀ b, cnY Y Y.length b = mult x b) := fun b => cnY_perm hp b
  have HY12 : Hid (Y.length ≤ 12) := hY12
  clear hb hs hg hOB hp hY12 L2 L3 HSr
  go_wp2_with fail
  refine HCo.out.mono ?_
  rintro e w4 ⟨C', v4, rfl, hI, hlc, ho4, hb⟩
  have hI2 : IsC (mult x) C' := ⟨hI.ord, hI.pos, fun b => by rw [hI.num, HCn.out]⟩
  obtain rfl : C' = C := hI2.same HC.out
  obtain ⟨A4, c4, rfl, -, hr4⟩ := own_rd ncells_length ho4
  have N2 : Hid (Blk w4 (w.heap.size + 1) 26 #[.int .u8 0, .int .i16 0]) := M2.out.keep hb
  have N3 : Hid (Below w.heap.size w w4) := M3.out.trans (hb.mono M3.out.size)
  have HR4 := Lib.hid hr4
  have HC12 : Hid (C'.length ≤ 12) := Nat.le_trans hlc HY12.out
  clear hb hI hI2 hlc ho4 hr4 HCo HCn M2 M3
  by_cases h0 : C' = []
  · have E := Lib.hid (mo_none HOk.out h0)
    have d0 : w4.cell? ⟨w.heap.size + 1, 0, none⟩ = some (.int .u8 0) := N2.out.cell 0
    have d1 : w4.cell? ⟨w.heap.size + 1, 1, none⟩ = some (.int .i16 0) := N2.out.cell 1
    have f0 : w4.frozen? ⟨w.heap.size + 1, 0, none⟩ = false := N2.out.frozen 0
    have f1 : w4.frozen? ⟨w.heap.size + 1, 1, none⟩ = false := N2.out.frozen 1
    have hl0 : C'.length = 0 := by rw [h0]; rfl
    rw [hl0]
    clear h0 hl0
    go_wp2
    refine bodyPost_ret (v := .tuple #[.agg #[.int .u8 0, .int .i16 0], .int .i64 0, .int .i64 6]) (by simp [results, Tryd.results7, go_sem, *]) rfl ?_
    exact ⟨by rw [E.out], (N3.out.setCell (p := ⟨w.heap.size + 1, 0, none⟩) (Nat.le_succ _) _).setCell (p := ⟨w.heap.size + 1, 1, none⟩) (Nat.le_succ _) _⟩
  · have E := Lib.hid (mo_some HOk.out h0)
    have hn0 : 0 < C'.length := List.length_pos_iff.2 h0
    obtain ⟨⟨⟨k1, y1⟩, n1⟩, hx⟩ : ∃ z, C'[0]? = some z := ⟨_, List.getElem?_eq_getElem hn0⟩
    obtain ⟨b, o, rfl, hbl, hrow⟩ := HR4.out.at_ ncells_length hx
    obtain ⟨p1, p2, p3⟩ := rowN3 hrow
    rw [Nat.zero_mul, Nat.add_zero] at p1 p2 p3
    have hM1 : mxC (C'.take 1) = ((k1, y1), n1) := by
      obtain ⟨h1, h2⟩ := List.getElem?_eq_some_iff.1 hx
      rw [List.take_succ_eq_append_getElem h1, h2]; rfl
    have HM1 := Lib.hid hM1
    have hnz : ((C'.length : Int) == 0) = false := by simp; omega
    have hn1 : (0 : Int) < C'.length := by omega
    have N4 : Hid (Blk (w4.alloc (.cells #[.int .u8 k1, .int .i16 y1, .int .i64 n1] 68)) w4.heap.size 68 #[.int .u8 k1, .int .i16 y1, .int .i64 n1]) := Blk.new w4 _ _
    have N5 : Hid (Below w4.heap.size w4 (w4.alloc (.cells #[.int .u8 k1, .int .i16 y1, .int .i64 n1] 68))) := (Below.refl _ w4).alloc (Nat.le_refl _) _
    have HL : Hid (0 < C'.length) := hn0
    obtain ⟨cn, hcn⟩ : ∃ n, C'.length = n := ⟨_, rfl⟩
    have HCn := Lib.hid hcn
    rw [hcn] at hnz hn1 ⊢
    clear h0 hn0 hx hbl hrow hM1 hcn
    go_wp2_with fail
    clear p1 p2 p3 hnz
    go_loopw [7] (fun iv wr => ∃ k : Nat, 1 ≤ k ∧ k ≤ cn ∧ iv = .int .i64 k ∧ Blk wr w4.heap.size 68 #[.int .u8 (mxC (C'.take k)).1.1, .int .i16 (mxC (C'.take k)).1.2, .int .i64 (mxC (C'.take k)).2] ∧ Below w4.heap.size w4 wr) (fun i _ => cn - (intOf i).toNat)
    case atStart => exact ⟨1, Nat.le_refl _, by have := HCn.out; have := HL.out; omega, rfl, by rw [HM1.out]; exact N4.out, N5.out⟩
    case round =>
      clear N4 N5
      obtain ⟨k, hk1, hk, rfl, hK, hB⟩ := hrel
      obtain ⟨wa, rfl⟩ : ∃ u, u = wr := ⟨_, rfl⟩
      have hk0 : (0 : Int) ≤ (k : Int) := Int.natCast_nonneg _
      have HB := Lib.hid hB
      have HK := Lib.hid hK
      have HBw : Hid (Below w.heap.size w wa) := N3.out.trans (hB.mono N3.out.size)
      have HK2 : Hid (Blk wa (w.heap.size + 1) 26 #[.int .u8 0, .int .i16 0]) := N2.out.keep hB
      have hne : w.heap.size + 1 ≠ w4.heap.size := by have := N2.out.lt; omega
      have hsz : w.heap.size ≤ w4.heap.size := N3.out.size
      have HNe : Hid (w.heap.size + 1 ≠ w4.heap.size) := hne
      have HSz : Hid (w.heap.size ≤ w4.heap.size) := hsz
      clear hK hB hne hsz
      obtain ⟨mm, hmm⟩ : ∃ m, mxC (C'.take k) = m := ⟨_, rfl⟩
      have HMm := Lib.hid hmm
      rw [hmm] at HK
      clear hmm
      obtain ⟨⟨k2, y2⟩, n2⟩ := mm
      have c0 : wa.cell? ⟨w4.heap.size, 0, none⟩ = some (.int .u8 k2) := HK.out.cell 0
      have c1 : wa.cell? ⟨w4.heap.size, 1, none⟩ = some (.int .i16 y2) := HK.out.cell 1
      have c2 : wa.cell? ⟨w4.heap.size, 2, none⟩ = some (.int .i64 n2) := HK.out.cell 2
      by_cases hlt : k < cn
      · have hk8 : (k : Int) < cn := by omega
        obtain ⟨⟨⟨k3, y3⟩, n3⟩, hx⟩ : ∃ z, C'[k]? = some z := ⟨_, List.getElem?_eq_getElem (by rw [HCn.out]; exact hlt)⟩
        obtain ⟨b2, o2, he2, hbl, hrow⟩ := (HR4.out.keep HB.out).at_ ncells_length hx
        obtain ⟨rfl, rfl⟩ : b = b2 ∧ o = o2 := by simpa using he2
        obtain ⟨p1, p2, p3⟩ := rowN3 hrow
        have HSt := Lib.hid (mx_step (by omega) hx)
        have f0 : wa.frozen? ⟨w4.heap.size, 0, none⟩ = false := HK.out.frozen 0
        have f1 : wa.frozen? ⟨w4.heap.size, 1, none⟩ = false := HK.out.frozen 1
        have f2 : wa.frozen? ⟨w4.heap.size, 2, none⟩ = false := HK.out.frozen 2
        have hc12 := HC12.out
        rw [HCn.out] at hc12
        have uk : IntKind.i64.wrap ((k : Int) + 1) = (k : Int) + 1 := IntWalk.i64_in _ ⟨by omega, by omega⟩
        have uk2 : wrap64 ((k : Int) + 1) = (k : Int) + 1 := IntWalk.wrap64_in _ ⟨by omega, by omega⟩
        have UK := Lib.hid uk
        have UK2 := Lib.hid uk2
        clear hx hrow hbl he2 uk uk2 hc12
        by_cases hgt : n2 < n3
        · have HS2 : Hid (mxC (C'.take (k + 1)) = ((k3, y3), n3)) := by show _ = _; rw [HSt.out, HMm.out, mxN, if_pos (show ((k2, y2), n2).2 < ((k3, y3), n3).2 from hgt)]
          go_wp2_with fail
          go_region
          obtain ⟨wd, hwd⟩ : ∃ u, wa.drew = u := ⟨_, rfl⟩
          try rw [hwd]
          have hKd : Blk wd w4.heap.size 68 #[.int .u8 k2, .int .i16 y2, .int .i64 n2] := by rw [← hwd]; exact HK.out
          have hBd : Below w4.heap.size w4 wd := by rw [← hwd]; exact HB.out.drew
          have e0 : wd.cell? ⟨b, o + k * 3, none⟩ = some (.int .u8 k3) := by rw [← hwd]; exact p1
          have e1 : wd.cell? ⟨b, o + k * 3 + 1, none⟩ = some (.int .i16 y3) := by rw [← hwd]; exact p2
          have e2 : wd.cell? ⟨b, o + k * 3 + 2, none⟩ = some (.int .i64 n3) := by rw [← hwd]; exact p3
          have g0 : wd.frozen? ⟨w4.heap.size, 0, none⟩ = false := hKd.frozen 0
          have g1 : wd.frozen? ⟨w4.heap.size, 1, none⟩ = false := hKd.frozen 1
          have g2 : wd.frozen? ⟨w4.heap.size, 2, none⟩ = false := hKd.frozen 2
          have d0 : wd.cell? ⟨w4.heap.size, 0, none⟩ = some (.int .u8 k2) := hKd.cell 0
          have d1 : wd.cell? ⟨w4.heap.size, 1, none⟩ = some (.int .i16 y2) := hKd.cell 1
          have d2 : wd.cell? ⟨w4.heap.size, 2, none⟩ = some (.int .i64 n2) := hKd.cell 2
          have hK3 : Blk (((wd.setCell ⟨w4.heap.size, 0, none⟩ (.int .u8 k3)).setCell ⟨w4.heap.size, 1, none⟩ (.int .i16 y3)).setCell ⟨w4.heap.size, 2, none⟩ (.int .i64 n3)) w4.heap.size 68 #[.int .u8 k3, .int .i16 y3, .int .i64 n3] := by
            have := ((hKd.set_ 0 (.int .u8 k3)).set_ 1 (.int .i16 y3)).set_ 2 (.int .i64 n3)
            simpa using this
          have HK3 := Lib.hid hK3
          have HB3 : Hid (Below w4.heap.size w4 (((wd.setCell ⟨w4.heap.size, 0, none⟩ (.int .u8 k3)).setCell ⟨w4.heap.size, 1, none⟩ (.int .i16 y3)).setCell ⟨w4.heap.size, 2, none⟩ (.int .i64 n3))) := ((hBd.setCell (p := ⟨w4.heap.size, 0, none⟩) (Nat.le_refl _) _).setCell (p := ⟨w4.heap.size, 1, none⟩) (Nat.le_refl _) _).setCell (p := ⟨w4.heap.size, 2, none⟩) (Nat.le_refl _) _
          clear hwd hKd hBd hK3 p1 p2 p3 c0 c1 c2 f0 f1 f2
          have uk := UK.out
          have uk2 := UK2.out
          go_wp2
          clear uk uk2
          go_roundw
          case rel => exact ⟨k + 1, by omega, by omega, by first | rfl | go_num, by rw [HS2.out]; exact HK3.out, HB3.out⟩
          case measure => simp [intOf]; omega
        · have HS2 : Hid (mxC (C'.take (k + 1)) = ((k2, y2), n2)) := by show _ = _; rw [HSt.out, HMm.out, mxN, if_neg (show ¬ ((k2, y2), n2).2 < ((k3, y3), n3).2 from hgt)]
          go_wp2_with fail
          go_region
          have uk := UK.out
          have uk2 := UK2.out
          go_wp2
          clear uk uk2
          go_roundw
          case rel => exact ⟨k + 1, by omega, by omega, by first | rfl | go_num, by rw [HS2.out]; exact HK.out, HB.out.drew⟩
          case measure => simp [intOf]; omega
      · obtain rfl : k = cn := by omega
        have HE2 : Hid (moR x C' = (((k2, y2), n2), 0)) := by
          show _ = _
          rw [E.out]
          have h := HMm.out
          rw [← HCn.out, List.take_length] at h
          rw [h]
        have f0 : wa.frozen? ⟨w.heap.size + 1, 0, none⟩ = false := HK2.out.frozen 0
        have f1 : wa.frozen? ⟨w.heap.size + 1, 1, none⟩ = false := HK2.out.frozen 1
        have e0 : wa.cell? ⟨w.heap.size + 1, 0, none⟩ = some (.int .u8 0) := HK2.out.cell 0
        have e1 : wa.cell? ⟨w.heap.size + 1, 1, none⟩ = some (.int .i16 0) := HK2.out.cell 1
        have hne := HNe.out
        have hne2 : w4.heap.size ≠ w.heap.size + 1 := fun e => hne e.symm
        go_wp2_with fail
        go_region
        all_goals go_wp2
        refine bodyPost_ret (v := .tuple #[.agg #[.int .u8 k2, .int .i16 y2], .int .i64 n2, .int .i64 0]) (by simp [results, Tryd.results7, go_sem, *]) rfl ?_
        exact ⟨by rw [HE2.out], by first | exact ((HBw.out.setCell (p := ⟨w.heap.size + 1, 0, none⟩) (Nat.le_succ _) _).setCell (p := ⟨w.heap.size + 1, 1, none⟩) (Nat.le_succ _) _).drew | exact (HBw.out.drew.setCell (p := ⟨w.heap.size + 1, 0, none⟩) (Nat.le_succ _) _).setCell (p := ⟨w.heap.size + 1, 1, none⟩) (Nat.le_succ _) _⟩
end Go.Proofs.YtcdhmlalpjcidaaDoor
