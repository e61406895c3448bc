/-
  The program's contract of SortLane. Condition: the rack reads as lists of things that are stored, whose numbers fit their kinds, not more than 1048576; the sentinel errors lie as the row lists them.
-/
import Derived.Test.YtlfamfdgphhbcaaDoorLs0
import Derived.Test.YtlfamfdgphhbcaaDoorAh
import Derived.Test.YtlfamfdgphhbcaaDoorFn
namespace Go.Proofs.YtlfamfdgphhbcaaDoor
open Go.ChangeShapes Go.WideShapes Go.ChangeAt Go.RowKit Go.Deep

set_option maxRecDepth 100000 in
set_option maxHeartbeats 4000000 in
theorem implSortLane_any (xss : List (List Wnt)) (hwf : ∀ xs ∈ xss, ∀ x ∈ xs, wfW x) (A : Option Addr) (c : Nat) (l : Int) (ad : Nat → Addr) (w : World) (hl : xss.length ≤ 1048576) (hx : ∀ xs ∈ xss, xs.length ≤ 1048576) (hr : RdN w w.heap.size wcells A xss) (hE : EW 7 w ad) :
    Calls Tryd.prog 17 #[.slice A xss.length c, .int .i64 l] w fun e w' => ∃ A' c' hs, e = .returned (.tuple #[.slice A' (slL xss l).length c', .int .i64 (slC xss l)]) ∧ OwnN w' w.heap.size 88 90 3 wcells A' c' hs (slL xss l) ∧ Below w.heap.size w w' := by
  have HR := Lib.hid hr
  have HW := Lib.hid hwf
  have HX := Lib.hid hx
  have HE := Lib.hid hE
  clear hr hwf hx hE
  go_enter Tryd.func17, Tryd.ntmps17
  go_wp2_with fail
  refine (checkRack_any xss A c ad _ hl HX.out HR.out HE.out).mono ?_
  rintro e w1 ⟨rfl, hb⟩
  have G2 := Lib.hid hb
  clear hb
  obtain ⟨v0, hv0⟩ : ∃ v, erV ad 5 (rkOk xss) = v := ⟨_, rfl⟩
  have hp0 := erV_isE ad 5 (rkOk xss)
  rw [hv0] at hp0 ⊢
  have V0 := Lib.hid hv0
  have P0 := Lib.hid hp0
  clear hv0 hp0
  go_wp2_with fail
  refine (checkLane_any xss.length c A l ad w1 hl (HE.out.below G2.out (Nat.le_refl _))).mono ?_
  rintro e w2 ⟨rfl, hb⟩
  have K2 := Lib.hid (G2.out.trans (hb.mono G2.out.size))
  clear hb G2
  obtain ⟨v1, hv1⟩ : ∃ v, erV ad 0 (inB l xss.length) = v := ⟨_, rfl⟩
  have hp1 := erV_isE ad 0 (inB l xss.length)
  rw [hv1] at hp1 ⊢
  have V1 := Lib.hid hv1
  have P1 := Lib.hid hp1
  clear hv1 hp1
  go_wp2_with (refine wpList_twoErrs rfl (.tmp 9) (.tmp 12) rfl P0.out P1.out rfl rfl ?_)
  have q0 := new_cell2 w2 v0 v1 59
  refine (first2_any P0.out P1.out _ _ _ q0.1 q0.2).mono ?_
  rintro e w9 ⟨rfl, rfl⟩
  have L2 : Below w.heap.size w (w2.alloc (.cells #[v0, v1] 59)) := K2.out.alloc K2.out.size _
  obtain ⟨w3, hw3⟩ : ∃ w3, w2.alloc (.cells #[v0, v1] 59) = w3 := ⟨_, rfl⟩
  rw [hw3] at L2 ⊢
  have M2 := Lib.hid L2
  clear q0 hw3 L2 K2
  cases ha : rkOk xss
  · have hv : firstV v0 v1 = .iface 197 (.pointer (some (ad 5))) := by rw [← V0.out, ha]; rfl
    rw [hv]
    have h0 : slC xss l = 1 := by simp [slC, ha]
    have E1 := Lib.hid h0
    have E2 := Lib.hid (slL_no (xss := xss) (l := l) (by omega))
    clear hv h0
    go_wp2_with fail
    refine (codeOf_5 (HE.out.below M2.out (Nat.le_refl _))).mono ?_
    rintro e w4 ⟨rfl, rfl⟩
    go_wp2
    go_ret2
    exact ⟨_, _, [], by (rw [E1.out, E2.out]; first | done | rfl), by rw [E2.out]; exact OwnN.nil _ _ _ _ _ _, M2.out⟩
  cases hi : inB l xss.length
  · have hv : firstV v0 v1 = .iface 197 (.pointer (some (ad 0))) := by rw [← V0.out, ← V1.out, ha, hi]; rfl
    rw [hv]
    have h0 : slC xss l = 2 := by simp [slC, ha, hi]
    have E1 := Lib.hid h0
    have E2 := Lib.hid (slL_no (xss := xss) (l := l) (by omega))
    clear hv h0
    go_wp2_with fail
    refine (codeOf_0 (EW.less (HE.out.below M2.out (Nat.le_refl _)) (by omega))).mono ?_
    rintro e w4 ⟨rfl, rfl⟩
    go_wp2
    go_ret2
    exact ⟨_, _, [], by (rw [E1.out, E2.out]; first | done | rfl), by rw [E2.out]; exact OwnN.nil _ _ _ _ _ _, M2.out⟩
  have hv : firstV v0 v1 = .nilIface := by rw [← V0.out, ← V1.out, ha, hi]; rfl
  rw [hv]
  obtain ⟨k, rfl, hk⟩ := inB_nat hi
  have h0 : slC xss (k : Int) = 0 := by simp [slC, ha, hi]
  have E1 := Lib.hid h0
  have E2 := Lib.hid (slL_yes h0)
  have HA := Lib.hid ha
  clear hv ha hi h0 V0 V1 P0 P1
  obtain ⟨xs, hxs⟩ : ∃ xs, lnAt xss k = xs := ⟨_, rfl⟩
  have hxk := lnAt_nat hk
  rw [hxs] at hxk E2
  have HXk := Lib.hid hxk
  have hk0 : (0 : Int) ≤ (k : Int) := Int.natCast_nonneg _
  clear hxs
  go_wp2_with fail
  refine (copied_any xss A c _ hl HX.out (HR.out.keep M2.out)).mono ?_
  rintro e w4 ⟨A1, c1, hs, rfl, hN, hb4⟩
  have hlen : hs.length = xss.length := hN.2.1
  obtain ⟨⟨a, m, c0⟩, hhk⟩ : ∃ h, hs[k]? = some h := ⟨_, List.getElem?_eq_getElem (by omega)⟩
  obtain ⟨em, how⟩ := hN.2.2.1 k _ xs hhk hxk
  dsimp only at em how
  subst em
  obtain ⟨b0, o0, e0, hb0, hrow⟩ := (own_rd2 hcells_length hN.1).at_ hcells_length hhk
  obtain ⟨g0, rfl⟩ : ∃ g, A1 = some ⟨g, 0, none⟩ := by
    rcases hN.1.2 with ⟨e, -⟩ | ⟨g, cap, cur, hv, -⟩
    · rw [e0] at e; cases e
    · exact ⟨g, (Value.slice.inj hv).1⟩
  obtain ⟨rfl, rfl⟩ : g0 = b0 ∧ 0 = o0 := by simpa using e0
  have hc1 := rowH hrow
  rw [Nat.zero_add] at hc1
  dsimp only at hc1
  have hf4 : w4.frozen? ⟨g0, k, none⟩ = false := by
    rcases hN.1.2 with ⟨e, -⟩ | ⟨g, cap, cur, hv, hb, hg', -⟩
    · cases e
    · obtain rfl : g0 = g := by simpa using (Value.slice.inj hv).1
      simp [World.frozen?, hg']
  have hw3 : w.heap.size ≤ w3.heap.size := M2.out.size
  have hNb := hN.base hw3
  have HB4 : Hid (Below w.heap.size w w4) := M2.out.trans (hb4.mono M2.out.size)
  have hrd := own_rd2 wcells_length how
  have hx6 := (rkOk_lane HA.out (List.mem_of_getElem? hxk)).1
  have HWx : Hid (∀ x ∈ xs, wfW x) := fun x h => HW.out xs (List.mem_of_getElem? hxk) x h
  have HOrd := Lib.hid (orderedT_any nfC xs xs.length rfl (by omega) (fun p q hp hq => by
      have h1 := (HWx.out p hp).2
      have h2 := (HWx.out q hq).2
      unfold nfC; omega) (fun p q hp hq W => newest_any p q (HWx.out p hp) (HWx.out q hq) W) a c0 w4 hrd (fun W hW => cloneT_any xs a c0 W (by omega) (hrd.keep hW)))
  have HNb := Lib.hid hNb
  have HLs := Lib.hid (nfL_len xs)
  have HSw := Lib.hid (HB4.out.size)
  have HKl : Hid (k < hs.length) := (List.getElem?_eq_some_iff.1 hhk).1
  have hk8 : (k : Int) < hs.length := by have := HKl.out; omega
  have HLen := Lib.hid hlen
  clear hN hNb hb4 how hrow e0 hrd hx6 hhk hxk hw3
  rw [← hlen]
  clear hlen
  go_wp2_with fail
  refine HOrd.out.mono ?_
  rintro e w5 ⟨A5, c5, rfl, hown5, hb5⟩
  have hcell5 : w5.cell? ⟨g0, k, none⟩ = some (.slice a xs.length c0) := (hb5.cell (p := ⟨g0, k, none⟩) hb0).trans hc1
  have hfr5 : w5.frozen? ⟨g0, k, none⟩ = false := by
    have h1 := hb5.block g0 hb0
    have h2 := hf4
    simp only [World.frozen?] at h2 ⊢
    rw [h1]; exact h2
  have HN5 : Hid (OwnN (w5.setCell ⟨g0, k, none⟩ (.slice A5 xs.length c5)) w.heap.size 88 90 3 wcells (some ⟨g0, 0, none⟩) c1 (hs.set k (A5, xs.length, c5)) (xss.set k (nfL xs))) := by
    have h1 := HNb.out.putN (ys := nfL xs) (A' := A5) (c' := c5) HKl.out hb5 HSw.out (by rw [HLs.out]; exact hown5)
    rw [HLs.out] at h1
    exact h1
  have HB5 : Hid (Below w.heap.size w (w5.setCell ⟨g0, k, none⟩ (.slice A5 xs.length c5))) := (HB4.out.trans (hb5.mono HB4.out.size)).setCell (p := ⟨g0, k, none⟩) (own_block HNb.out.1 rfl).1 _
  clear hown5 hb5 hc1 hf4 HOrd
  go_wp2
  go_ret2
  exact ⟨some ⟨g0, 0, none⟩, c1, _, by (rw [E1.out, E2.out, List.length_set, ← HLen.out]; first | done | rfl), by rw [E2.out]; exact HN5.out, HB5.out⟩
end Go.Proofs.YtlfamfdgphhbcaaDoor
