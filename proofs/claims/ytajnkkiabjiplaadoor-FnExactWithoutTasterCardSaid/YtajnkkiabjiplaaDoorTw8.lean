/-
  WithoutTaster: the program's contract. Condition: the sentinel errors lie as the row lists them.
-/
import Derived.Test.YtajnkkiabjiplaaDoorTw7
import Derived.Test.YtajnkkiabjiplaaDoorTc
namespace Go.Proofs.YtajnkkiabjiplaaDoor
open Go.ChangeShapes Go.WideShapes Go.ChangeAt Go.RowKit Go.Deep

theorem wt_first (b0 b1 : Bool) : (b0 = false → firstO [chk 5 b0, chk 0 b1] = some 5) ∧ (b0 = true → b1 = false → firstO [chk 5 b0, chk 0 b1] = some 0) ∧ (b0 = true → b1 = true → firstO [chk 5 b0, chk 0 b1] = none) := by
  revert b0 b1; decide
theorem nil_ownN (w : World) (b : Nat) : OwnN w b 29 2 1 icells none 0 [] ([] : List (List Int)) := OwnN.nil w b _ _ _ _
theorem new_cellW2 (W : World) (u v : Value) (t : TypeId) : (W.alloc (.cells #[u, v] t)).cell? ⟨W.heap.size, 0, none⟩ = some u ∧ (W.alloc (.cells #[u, v] t)).cell? ⟨W.heap.size, 1, none⟩ = some v := ⟨(Blk.new W t #[u, v]).cell 0, (Blk.new W t #[u, v]).cell 1⟩

set_option maxRecDepth 100000 in
set_option maxHeartbeats 4000000 in
theorem implWithout_any (n : Int) (m : List (List Int)) (q : Int) (hq : wfI6 q) (A : Option Addr) (c : Nat) (ad : Nat → Addr) (w : World) (hl : m.length ≤ 1048576) (hx : ∀ xs ∈ m, xs.length ≤ 1048576) (hr : RdN w w.heap.size icells A m) (hE : EW 7 w ad) :
    Calls Tryd.prog 17 #[.int .i64 n, .slice A m.length c, .int .i64 q] w fun e w' => ∃ A' c' hs, e = .returned (.tuple #[.slice A' (wtA n m q).length c', .int .i64 (wtC n m q)]) ∧ OwnN w' w.heap.size 29 2 1 icells A' c' hs (wtA n m q) ∧ Below w.heap.size w w' := by
  obtain ⟨j0, hj, hy0, hy1, hy2⟩ := info_parts Tryd.infoLN
  have HJ := Lib.hid hj
  have HY0 := Lib.hid hy0
  have HY1 := Lib.hid hy1
  have HY2 := Lib.hid hy2
  clear hj hy0 hy1 hy2
  have HX := Lib.hid hx
  have HE := Lib.hid hE
  have HCm := Lib.hid (checkMarks_any n m A c ad w hl hx hr hE)
  have HR : Hid (RdN w w.heap.size icells A m) := hr
  have hml : (0 : Int) ≤ (m.length : Int) := Int.natCast_nonneg _
  clear hx hr hE
  obtain ⟨v0, hv0⟩ : ∃ v, erO ad (chk 5 (mkOk n m)) = v := ⟨_, rfl⟩
  have HV0 := Lib.hid hv0
  have P0 : Hid (isE v0) := by show isE v0; rw [← hv0]; exact erO_isE _ _
  rw [hv0] at HCm
  clear hv0
  go_enter Tryd.func17, Tryd.ntmps17
  go_wp2_with fail
  refine HCm.out.mono ?_
  rintro e w1 ⟨rfl, hb⟩
  have HB1 := Lib.hid hb
  clear hb HCm
  have hA1 : Below w.heap.size w (w1.alloc (.cells #[.int .i64 q] 2)) := HB1.out.alloc HB1.out.size _
  have hK1 : Rs (w1.alloc (.cells #[.int .i64 q] 2)) w1.heap.size 2 icells [q] := by
    have := Blk.new w1 2 (icells q).toArray
    simpa [Rs, icells] using this
  have HCi := Lib.hid (checkIndicesI_any [q] (m.length : Int) (some ⟨w1.heap.size, 0, none⟩) 1 ad _ (by simp) (hK1.rd hK1.lt) (HE.out.below hA1 (Nat.le_refl _)))
  rw [show inRI (m.length : Int) [q] = wi 0 ((m.length : Int) - 1) q from by simp [inRI]] at HCi
  obtain ⟨v1, hv1⟩ : ∃ v, erO ad (chk 0 (wi 0 ((m.length : Int) - 1) q)) = v := ⟨_, rfl⟩
  have HV1 := Lib.hid hv1
  have P1 : Hid (isE v1) := by show isE v1; rw [← hv1]; exact erO_isE _ _
  rw [hv1] at HCi
  have HCi : Hid (Calls Tryd.prog 35 #[.slice (some ⟨w1.heap.size, 0, none⟩) 1 1, .int .i64 m.length] (w1.alloc (.cells #[.int .i64 q] 2)) fun e w' => e = .returned v1 ∧ Below (w1.alloc (.cells #[.int .i64 q] 2)).heap.size (w1.alloc (.cells #[.int .i64 q] 2)) w') := HCi.out.mono (fun e w' h => ⟨h.1, h.2 ▸ Below.refl _ _⟩)
  have HA1 := Lib.hid hA1
  clear hv1 hK1 hA1
  go_wp2_with fail
  refine HCi.out.mono ?_
  rintro e w2 ⟨rfl, hb⟩
  have HA2 : Hid (Below w.heap.size w w2) := HA1.out.trans (hb.mono HA1.out.size)
  clear HCi hb HA1
  go_wp2_with (refine wpList_twoErrs rfl (.tmp 14) (.tmp 19) rfl P0.out P1.out rfl rfl ?_)
  have q0 := new_cellW2 w2 v0 v1 41
  rw [← HV0.out, ← HV1.out] at q0 ⊢
  refine (firstErr2_O ad _ _ _ _ _ q0.1 q0.2).mono ?_
  rintro e w9 ⟨rfl, rfl⟩
  rw [HV0.out, HV1.out]
  have L2 : Below w.heap.size w (w2.alloc (.cells #[v0, v1] 41)) := HA2.out.alloc HA2.out.size _
  obtain ⟨w3, hw3⟩ : ∃ w3, w2.alloc (.cells #[v0, v1] 41) = w3 := ⟨_, rfl⟩
  rw [hw3] at L2 ⊢
  have M2 := Lib.hid L2
  have hF := wt_first (mkOk n m) (wi 0 ((m.length : Int) - 1) q)
  obtain ⟨o, ho⟩ : ∃ o, firstO [chk 5 (mkOk n m), chk 0 (wi 0 ((m.length : Int) - 1) q)] = o := ⟨_, rfl⟩
  rw [ho] at hF ⊢
  have HF := Lib.hid hF
  clear hF ho
  clear q0 hw3 L2 HA2 HB1 HV0 HV1 P0 P1
  cases h0 : mkOk n m
  · have E := Lib.hid (wtC_inv (q := q) h0)
    rw [HF.out.1 h0, erO_some]
    clear h0
    go_wp2_with fail
    refine (codeOf_5 (HE.out.below M2.out (Nat.le_refl _))).mono ?_
    rintro e w4 ⟨rfl, rfl⟩
    go_wp2
    go_ret2
    refine ⟨none, 0, [], by (rw [E.out.1, E.out.2]; first | done | rfl), ?_, M2.out⟩
    rw [E.out.2]
    exact nil_ownN _ _
  cases h1 : wi 0 ((m.length : Int) - 1) q
  · have E := Lib.hid (wtC_rng h0 h1)
    rw [HF.out.2.1 h0 h1, erO_some]
    clear h0 h1
    go_wp2_with fail
    refine (codeOf_0 ((HE.out.below M2.out (Nat.le_refl _)).less (by omega))).mono ?_
    rintro e w4 ⟨rfl, rfl⟩
    go_wp2
    go_ret2
    refine ⟨none, 0, [], by (rw [E.out.1, E.out.2]; first | done | rfl), ?_, M2.out⟩
    rw [E.out.2]
    exact nil_ownN _ _
  have E := Lib.hid (wtC_ok h0 h1)
  have hqq := wi_iff.1 h1
  rw [HF.out.2.2 h0 h1, erO_none]
  clear h0 h1 HF
  have HO1 : Hid (OwnN w3 w3.heap.size 29 2 1 icells none 0 [] ([] : List (List Int))) := nil_ownN _ _
  go_wp2_with fail
  go_loopw [9, 28] (fun v i wr => ∃ (k : Nat) (A1 : Option Addr) (c1 : Nat) (hs : List Hd), k ≤ m.length ∧ i = .int .i64 k ∧ v = .slice A1 hs.length c1 ∧ OwnN wr w3.heap.size 29 2 1 icells A1 c1 hs (wtTo m q k) ∧ Below w.heap.size w wr ∧ w3.heap.size ≤ wr.heap.size)
    (fun _ i _ => m.length - (intOf i).toNat)
  case atStart => exact ⟨0, _, _, [], by omega, rfl, rfl, HO1.out, M2.out, Nat.le_refl _⟩
  case round =>
    clear HO1
    obtain ⟨k, A1, c1, hs, hk, rfl, rfl, hO, hB, hbs⟩ := hrel
    have HO := Lib.hid hO
    have HB := Lib.hid hB
    have HS := Lib.hid hbs
    clear hO hB hbs
    have hk0 : (0 : Int) ≤ (k : Int) := Int.natCast_nonneg _
    by_cases hlt : k < m.length
    · obtain ⟨xs, hxs⟩ : ∃ x, m[k]? = some x := ⟨_, List.getElem?_eq_getElem hlt⟩
      have hk8 : (k : Int) < m.length := by omega
      obtain ⟨b, o, a, c', rfl, hb, hc, hrd⟩ := (HR.out.keep HB.out).at_ hxs
      by_cases he : (k : Int) = q
      · have he' : ((k : Int) == q) = true := by simpa using he
        have HSt : Hid (wtTo m q (k + 1) = wtTo m q k) := wtTo_same m he
        clear hxs he hrd
        go_wp2
        go_roundw
        case rel => exact ⟨k + 1, A1, c1, hs, by omega, by go_num, rfl, by rw [HSt.out]; exact HO.out, HB.out, HS.out⟩
        case measure => simp [intOf]; omega
      have he' : ((k : Int) == q) = false := by simpa using he
      have HSt : Hid (wtTo m q (k + 1) = wtTo m q k ++ [xs]) := wtTo_next hxs he
      have hxl := HX.out xs (List.mem_of_getElem? hxs)
      have hHl : hs.length ≤ k := by rw [HO.out.2.1]; exact wtTo_len _ _ _
      have HRd := Lib.hid hrd
      clear hxs hrd he
      go_wp2_with fail
      refine (cloneI_any xs a c' _ hxl HRd.out).mono ?_
      rintro e w4 ⟨a2, c2, rfl, hO2, hB2⟩
      have HO2 := Lib.hid hO2
      have HB2 := Lib.hid hB2
      clear hO2 hB2 hc
      have HN2 := Lib.hid (HO.out.keep HB2.out)
      have HBn : Hid (Below w4.heap.size w4 (w4.alloc (.cells (hcells (a2, xs.length, c2)).toArray 29))) := (Below.refl _ _).alloc (Nat.le_refl _) _
      go_wp2_with (first | (at_builtin; refine wpList_append_any _ rfl (.tmp 36) (.tmp 39) 25 25 rfl w3.heap.size 29 j0 (.slice none 0 0) 1 24 Tryd.underlying25 HJ.out HY0.out HY1.out HY2.out rfl (by decide) _ hs.length (hs.flatMap hcells) rfl ?own _ 1 (hcells (a2, xs.length, c2)) rfl ?src ?c3 ?c4 ?c5 ?_))
      case own => exact (HN2.out.keep HBn.out).1
      case src => exact src_hd Tryd.underlying25 w4 (a2, xs.length, c2)
      case c3 => unfold maxLen; omega
      case c4 => omega
      case c5 => have := HS.out; have := HB2.out.size; simp; omega
      intro v' w8 hown' hgrow hblk
      obtain ⟨A8, c8, rfl⟩ : ∃ A8 c8, v' = .slice A8 (hs.length + 1) c8 := by
        rcases hown'.2 with ⟨h1, h2⟩ | ⟨g, cap, cur, h1, -⟩
        · exact ⟨_, _, by rw [h1, h2]⟩
        · exact ⟨_, _, h1⟩
      rw [ownBlock_slice] at hgrow hblk
      rw [ownBlock_slice] at hblk
      have hN8 := HO.out.snoc HS.out (HB2.out.trans (HBn.out.mono HB2.out.size)) (own_keep' HO2.out HBn.out) hown' hgrow (hblk.imp id (fun h => h.trans (by simp)))
      rw [← HSt.out] at hN8
      have HN8 := Lib.hid hN8
      have HB8 : Hid (Below w.heap.size w w8) := by
        show Below _ _ _
        have h1 := HB.out.trans ((HB2.out.trans (HBn.out.mono HB2.out.size)).mono HB.out.size)
        exact h1.grown hgrow h1.size (fun r e => Nat.le_trans M2.out.size (own_block HO.out.1 (by rw [ownBlock_slice]; exact e)).1)
      have HS8 : Hid (w3.heap.size ≤ w8.heap.size) := by
        show _ ≤ _
        have h1 := hgrow.size
        simp at h1
        have h3 := HB2.out.size
        have h4 := HS.out
        omega
      clear hown' hgrow hblk hN8 HN2 HBn
      go_wp2
      go_roundw
      case rel => exact ⟨k + 1, A8, c8, _, by omega, by go_num, by first | rfl | simp, HN8.out, HB8.out, HS8.out⟩
      case measure => simp [intOf]; omega
    · obtain rfl : k = m.length := by omega
      have HLn := Lib.hid HO.out.2.1
      go_wp2
      go_ret2
      refine ⟨A1, c1, hs, by (rw [E.out.1, E.out.2, ← HLn.out]; first | done | rfl), ?_, HB.out⟩
      rw [E.out.2]
      exact HO.out.base M2.out.size
end Go.Proofs.YtajnkkiabjiplaaDoor
