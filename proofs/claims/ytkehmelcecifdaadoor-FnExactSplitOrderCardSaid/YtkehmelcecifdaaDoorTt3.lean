/-
  SplitOrder: the program's contract. Condition: the order reads, its numbers fit their kinds, not more than 1048576, nor more than its capacity; the number is an int64; the sentinel errors lie as the row lists them.
-/
import Derived.Test.YtkehmelcecifdaaDoorTt2
namespace Go.Proofs.YtkehmelcecifdaaDoor
open Go.ChangeShapes Go.WideShapes Go.ChangeAt Go.RowKit Go.Deep

theorem checkMost_any (m : Int) (ad : Nat → Addr) (w : World) (hE : EW 7 w ad) :
    Calls Tryd.prog 56 #[.int .i64 m] w fun e w' => e = .returned (erO ad (chk 0 (decide (1 ≤ m ∧ m ≤ 144)))) ∧ Below w.heap.size w w' := by
  have e4 : w.cell? ⟨1, 0, none⟩ = some (.iface 228 (.pointer (some (ad 0)))) := hE.cell 0 (by omega)
  obtain ⟨B, hB⟩ : ∃ B, decide (1 ≤ m ∧ m ≤ 144) = B := ⟨_, rfl⟩
  have HBd := Lib.hid hB
  rw [hB]
  clear hE hB
  go_enter Tryd.func56, Tryd.ntmps56
  by_cases h1 : m < 1
  · have hd : Hid (B = false) := HBd.out.symm.trans (decide_eq_false (by omega))
    go_wp2
    go_ret
    exact ⟨by rw [hd.out]; rfl, Below.refl _ _⟩
  · by_cases h2 : 144 < m
    · have hd : Hid (B = false) := HBd.out.symm.trans (decide_eq_false (by omega))
      go_wp2
      go_ret
      exact ⟨by rw [hd.out]; rfl, Below.refl _ _⟩
    · have hd : Hid (B = true) := HBd.out.symm.trans (decide_eq_true (by omega))
      go_wp2
      go_ret
      exact ⟨by rw [hd.out]; rfl, Below.refl _ _⟩
theorem chkV_O (ad : Nat → Addr) (b : Bool) : chkV ad b = erO ad (chk 5 b) := by cases b <;> rfl
theorem spl_step {ord r : List Wnt} {m : Int} (hm : 1 ≤ m) {parts : List (List Wnt)} (hN : okN r) (h0 : r ≠ []) (h : parts ++ spl m r = spl m ord) : (parts ++ [(cutW m r).1]) ++ spl m (cutW m r).2 = spl m ord := by
  rw [← h, spl_cons hm hN h0]; simp
theorem spl_count {ord r : List Wnt} {m : Int} (hm : 1 ≤ m) {parts : List (List Wnt)} (hO : okN ord) (hl : ord.length ≤ 8) (hN : okN r) (h0 : r ≠ []) (h : parts ++ spl m r = spl m ord) : parts.length < 1152 := by
  have h1 := (splF_len m (sumN ord) ord).1
  have h2 := sumN_le hO
  have h3 : (spl m ord).length ≤ sumN ord := h1
  rw [← h, spl_cons hm hN h0, List.length_append, List.length_cons] at h3
  omega

set_option maxRecDepth 100000 in
set_option maxHeartbeats 8000000 in
theorem implSplit_any (ord : List Wnt) (hw : ∀ x ∈ ord, wfW x) (m : Int) (A : Option Addr) (c : Nat) (hc : ord.length ≤ c) (ad : Nat → Addr) (w : World) (hl : ord.length ≤ 1048576) (hr : Rd w w.heap.size wcells A ord) (hE : EW 7 w ad) :
    Calls Tryd.prog 23 #[.slice A ord.length c, .int .i64 m] w fun e w' => ∃ A' c' hs, e = .returned (.tuple #[.slice A' (soL ord m).length c', .int .i64 (soC ord m)]) ∧ OwnN w' w.heap.size 46 91 3 wcells A' c' hs (soL ord m) ∧ Below w.heap.size w w' := by
  obtain ⟨j0, hj0, hy0, hy1, hy2⟩ := info_parts Tryd.infoLW
  have HJ := Lib.hid hj0
  have HY0 := Lib.hid hy0
  have HY1 := Lib.hid hy1
  have HY2 := Lib.hid hy2
  clear hj0 hy0 hy1 hy2
  have HR := Lib.hid hr
  have HW := Lib.hid hw
  have HE := Lib.hid hE
  have HCa : Hid (ord.length ≤ c) := hc
  clear hr hw hE hc
  go_enter Tryd.func23, Tryd.ntmps23
  go_wp2_with fail
  have hA : Below w.heap.size w (w.alloc (.cells #[.slice A ord.length c] 46)) := (Below.refl _ w).alloc (Nat.le_refl _) _
  refine (checkOrd_any ord HW.out A c w.heap.size _ ad _ hl (HR.out.keep hA) (new_cell w _ _).1 (HE.out.below hA (Nat.le_refl _))).mono ?_
  rintro e w1 ⟨rfl, hb⟩
  have HB1 : Hid (Below w.heap.size w w1) := hA.trans (hb.mono hA.size)
  clear hb hA
  rw [chkV_O]
  obtain ⟨v0, hv0⟩ : ∃ v, erO ad (chk 5 (ordOk ord)) = v := ⟨_, rfl⟩
  have HV0 := Lib.hid hv0
  have P0 : Hid (isE v0) := by show isE v0; rw [← hv0]; exact erO_isE _ _
  rw [hv0]
  clear hv0
  go_wp2_with fail
  refine (checkMost_any m ad _ (HE.out.below HB1.out (Nat.le_refl _))).mono ?_
  rintro e w2 ⟨rfl, hb⟩
  have HB2 : Hid (Below w.heap.size w w2) := HB1.out.trans (hb.mono HB1.out.size)
  clear hb HB1
  obtain ⟨v1, hv1⟩ : ∃ v, erO ad (chk 0 (decide (1 ≤ m ∧ m ≤ 144))) = v := ⟨_, rfl⟩
  have HV1 := Lib.hid hv1
  have P1 : Hid (isE v1) := by show isE v1; rw [← hv1]; exact erO_isE _ _
  rw [hv1]
  clear hv1
  go_wp2_with (refine wpList_twoErrs rfl (.tmp 12) (.tmp 14) rfl P0.out P1.out rfl rfl ?_)
  have q0 := new_cell2 w2 v0 v1 80
  rw [← HV0.out, ← HV1.out] at q0 ⊢
  refine (firstErr2_O ad _ _ _ _ _ q0.1 q0.2).mono ?_
  rintro e w9 ⟨rfl, rfl⟩
  rw [HV0.out, HV1.out]
  have L2 : Below w.heap.size w (w2.alloc (.cells #[v0, v1] 80)) := HB2.out.alloc HB2.out.size _
  obtain ⟨w3, hw3⟩ : ∃ w3, w2.alloc (.cells #[v0, v1] 80) = w3 := ⟨_, rfl⟩
  rw [hw3] at L2 ⊢
  have M2 := Lib.hid L2
  clear q0 hw3 L2 HB2 HV0 HV1 P0 P1
  cases ho : ordOk ord with
  | false =>
    have E := Lib.hid (so_bad m ho)
    rw [show firstO [chk 5 false, chk 0 (decide (1 ≤ m ∧ m ≤ 144))] = some 5 from rfl, erO_some]
    clear ho
    go_wp2_with fail
    refine (codeOf_O (HE.out.below M2.out (Nat.le_refl _)) 5 (by omega)).mono ?_
    rintro e w4 ⟨rfl, rfl⟩
    rw [show cdN 5 = 1 from rfl]
    go_wp2
    go_ret2
    exact ⟨none, 0, [], by (rw [E.out.1, E.out.2]; first | done | rfl), by rw [E.out.1]; exact OwnN.nil _ _ _ _ _ _, M2.out⟩
  | true =>
    by_cases hm : 1 ≤ m ∧ m ≤ 144
    · have E := Lib.hid (so_ok ho hm)
      have HN := Lib.hid (ordOk_N ho)
      have HL8 := Lib.hid (ordOk_L ho)
      rw [show firstO [chk 5 true, chk 0 (decide (1 ≤ m ∧ m ≤ 144))] = none from by rw [decide_eq_true hm]; rfl, erO_none]
      obtain ⟨hm1, hm2⟩ := hm
      clear ho
      have HRk := Lib.hid (HR.out.keep M2.out)
      have HK0 : Hid (KOt w.heap.size w3 A ord.length) := KOt.start HR.out
      go_wp2_with fail
      go_loopw [7, 8] (fun pv rv wr => ∃ (P : Option Addr) (pc : Nat) (hs : List Hd) (parts : List (List Wnt)) (K : Option Addr) (kc : Nat) (r : List Wnt), pv = .slice P hs.length pc ∧ rv = .slice K r.length kc ∧ okN r ∧ r.length ≤ 8 ∧ r.length ≤ kc ∧ parts ++ spl m r = spl m ord ∧ OwnN wr w.heap.size 46 91 3 wcells P pc hs parts ∧ Rd wr wr.heap.size wcells K r ∧ KOt w.heap.size wr K r.length ∧ Below w.heap.size w wr) (fun pv _ _ => 1152 - lnT pv)
      case atStart => exact ⟨none, 0, [], [], A, c, ord, rfl, rfl, HN.out, HL8.out, HCa.out, rfl, OwnN.nil _ _ _ _ _ _, HRk.out, HK0.out, M2.out⟩
      case round =>
        clear HRk HK0 M2
        obtain ⟨P, pc, hs, parts, K, kc, r, rfl, rfl, hrN, hr8, hrc, hF, hON, hK, hKO, hB⟩ := hrel
        obtain ⟨wa, rfl⟩ : ∃ u, u = wr := ⟨_, rfl⟩
        have HF := Lib.hid hF
        have HON := Lib.hid hON
        have HKr := Lib.hid hK
        have HKO := Lib.hid hKO
        have HB := Lib.hid hB
        have HrN := Lib.hid hrN
        have HLh : Hid (hs.length = parts.length) := hON.2.1
        clear hF hON hK hKO hB hrN
        by_cases h0 : r = []
        · subst h0
          have HF2 : Hid (parts = spl m ord) := by show _ = _; have := HF.out; rwa [spl_nil, List.append_nil] at this
          dsimp only [List.length_nil]
          go_wp2
          go_ret2
          exact ⟨P, pc, hs, by (rw [E.out.1, E.out.2, ← HF2.out, HLh.out]; first | done | rfl), by rw [E.out.1, ← HF2.out]; exact HON.out, HB.out⟩
        · have hcnt := spl_count hm1 HN.out HL8.out HrN.out h0 HF.out
          have HSt := Lib.hid (spl_step hm1 HrN.out h0 HF.out)
          have HC2 := Lib.hid (cutW_ok r m (by omega) HrN.out)
          have HC1 := Lib.hid (cutW_len r m)
          have hrl : 0 < r.length := List.length_pos_iff.2 h0
          have HRl : Hid (0 < r.length) := hrl
          have hrl2 : (0 : Int) < (r.length : Int) := by omega
          have hw16 : IntKind.i16.wrap m = m := IntWalk.i16_in _ ⟨by omega, by omega⟩
          have HCu := Lib.hid (cutOrder_any r HrN.out hr8 m ⟨hm1, hm2⟩ K kc hrc wa HKr.out)
          have HCnt : Hid (hs.length < 1152) := by show _ < _; rw [HLh.out]; exact hcnt
          have HR8 : Hid (r.length ≤ 8) := hr8
          clear hcnt h0 hrl HF hr8 hrc
          go_wp2_with fail
          refine HCu.out.mono ?_
          rintro e w5 ⟨A1, c1, A2, c2, rfl, h1, h2, h3, h4, hb⟩
          have HR1 := Lib.hid h1
          have HR2 := Lib.hid h2
          have HR3 : Hid ((cutW m r).2.length ≤ c2) := h3
          have HR4 := Lib.hid (h4 w.heap.size)
          have HBa := Lib.hid hb
          have HB5 := Lib.hid (HB.out.trans (hb.mono HB.out.size))
          obtain ⟨cp, hcp⟩ : ∃ p, (cutW m r).1 = p := ⟨_, rfl⟩
          obtain ⟨cr, hcr⟩ : ∃ p, (cutW m r).2 = p := ⟨_, rfl⟩
          rw [hcp] at HR1 HSt HC1 ⊢
          rw [hcr] at HR2 HR3 HR4 HSt HC1 HC2 ⊢
          have HCl := Lib.hid (cloneW_any cp A1 c1 w5 (by have := HC1.out.1; have := HR8.out; omega) HR1.out)
          clear hcp hcr h1 h2 h3 h4 hb HCu hw16 hrl2
          go_wp2_with fail
          refine HCl.out.mono ?_
          rintro e w6 ⟨A6, c6, rfl, ho6, hb⟩
          have hB6 : Below wa.heap.size wa w6 := HBa.out.trans (hb.mono HBa.out.size)
          have hA1 : Below w6.heap.size w6 (w6.alloc (.cells #[.slice A6 cp.length c6] 46)) := (Below.refl _ w6).alloc (Nat.le_refl _) _
          have HON8 := Lib.hid (HON.out.keep (hB6.trans (hA1.mono hB6.size)))
          have HX8 := Lib.hid (own_base (own_keep' ho6 hA1) HBa.out.size)
          have HBw8 := Lib.hid (hB6.trans (hA1.mono hB6.size))
          have hB6w : Below w.heap.size w w6 := HB5.out.trans (hb.mono HB5.out.size)
          have HBb8 := Lib.hid (hB6w.trans (hA1.mono hB6w.size))
          have HSz8 : Hid (w.heap.size ≤ w6.heap.size) := hB6w.size
          have HSz9 : Hid (w.heap.size ≤ wa.heap.size) := HB.out.size
          have HK8 := Lib.hid ((HR2.out.keep hb).keep hA1)
          have HKO8 := Lib.hid ((HR4.out.keep hb).keep hA1)
          have hol := HCnt.out
          clear ho6 hb hB6 hA1 hB6w HCl HR1 HR2 HR4 HB5 HBa HB
          go_wp2_with (at_builtin; refine wpList_append_any _ rfl (.tmp 32) (.tmp 35) 43 43 rfl w.heap.size 46 j0 (.slice none 0 0) 1 24 Tryd.underlying43 HJ.out HY0.out HY1.out HY2.out rfl (by decide) _ hs.length (hs.flatMap hcells) rfl ?own _ 1 (hcells (A6, cp.length, c6)) rfl ?src ?c3 ?c4 ?c5 ?_)
          case own => exact HON8.out.1
          case src => exact src_hd Tryd.underlying43 w6 (A6, cp.length, c6)
          case c3 => unfold maxLen; omega
          case c4 => omega
          case c5 => have := HSz8.out; simp; omega
          intro v9 w9 hown9 hg9 hblk9
          rw [ownBlock_slice] at hg9 hblk9
          obtain ⟨A9, c9, hv9, -, -⟩ := own_rd (xs := hs ++ [(A6, cp.length, c6)]) hcells_length (by rw [List.length_append, List.flatMap_append]; simpa using hown9)
          rw [List.length_append] at hv9
          have hv9 : v9 = .slice A9 (hs.length + 1) c9 := hv9
          subst hv9
          rw [ownBlock_slice] at hblk9
          have hN9 := OwnN.snoc HON.out HSz9.out HBw8.out HX8.out hown9 hg9 (by first | exact hblk9 | (simp only [World.size_alloc] at hblk9 ⊢; exact hblk9))
          have HN9 := Lib.hid hN9
          have HB9 : Hid (Below w.heap.size w w9) := HBb8.out.grown hg9 HBb8.out.size (fun q e => by have := (own_block HON.out.1 (by rw [ownBlock_slice]; exact e)).1; omega)
          have HK9 : Hid (Rd w9 w9.heap.size wcells A2 cr ∧ KOt w.heap.size w9 A2 cr.length) := by
            have hO : Only (fun q => P.map (·.block) = some q) _ w9 := Only.of_grown hg9 (fun q e => e)
            by_cases hz : 0 < cr.length
            · have hne := HKO8.out.ne hz HON8.out.1 (by decide)
              refine ⟨hO.rd HK8.out hne, fun _ q e => ?_⟩
              rcases HKO8.out hz q e with h | ⟨cs, h⟩
              · exact .inl h
              · exact .inr ⟨cs, hO.blk h (hne q e)⟩
            · exact ⟨fun h => absurd h hz, fun h => absurd h hz⟩
          clear hown9 hg9 hblk9 hN9 HON8 HX8 HBw8 HBb8 HK8 HKO8 HON
          have hlen : (hs ++ [(A6, cp.length, c6)]).length = hs.length + 1 := by simp
          go_wp2
          go_roundw
          case rel => exact ⟨A9, c9, hs ++ [(A6, cp.length, c6)], parts ++ [cp], A2, c2, cr, by rw [hlen], rfl, HC2.out, by have := HC1.out.2; have := HR8.out; omega, HR3.out, HSt.out, HN9.out, HK9.out.1, HK9.out.2, HB9.out⟩
          case measure => simp [lnT]; omega
    · have E := Lib.hid (so_far ho hm)
      rw [show firstO [chk 5 true, chk 0 (decide (1 ≤ m ∧ m ≤ 144))] = some 0 from by rw [decide_eq_false hm]; rfl, erO_some]
      clear ho hm
      go_wp2_with fail
      refine (codeOf_O (HE.out.below M2.out (Nat.le_refl _)) 0 (by omega)).mono ?_
      rintro e w4 ⟨rfl, rfl⟩
      rw [show cdN 0 = 2 from rfl]
      go_wp2
      go_ret2
      exact ⟨none, 0, [], by (rw [E.out.1, E.out.2]; first | done | rfl), by rw [E.out.1]; exact OwnN.nil _ _ _ _ _ _, M2.out⟩
end Go.Proofs.YtkehmelcecifdaaDoor
