/-
  Spots that are alike: the closure that drops the others, IndexFunc over spots with it. Condition: the captured bottle and day lie where the closure points.
-/
import Derived.Test.YtmfdgpinohbckaaDoorBk2
import Derived.Test.YtmfdgpinohbckaaDoorMg7
namespace Go.Proofs.YtmfdgpinohbckaaDoor
open Go.ChangeShapes Go.WideShapes Go.ChangeAt Go.RowKit Go.Deep

/-- What a spot says holds of a rack: its list is the lane. -/
def okK (xss : List (List Wnt)) (w : World) (s : Sp) : Prop := ∃ xs a c, xss[s.1.2.1]? = some xs ∧ xs[s.1.2.2]? = some s.1.1 ∧ s.2 = (a, xs.length, c) ∧ xs.length ≤ c ∧ Rd w w.heap.size wcells a xs
theorem okK.keep {xss : List (List Wnt)} {w w' : World} {s : Sp} (h : okK xss w s) (hb : Below w.heap.size w w') : okK xss w' s := by
  obtain ⟨xs, a, c, h1, h2, h3, h4, h5⟩ := h
  exact ⟨xs, a, c, h1, h2, h3, h4, h5.keep hb⟩

set_option maxRecDepth 100000 in
set_option maxHeartbeats 4000000 in
theorem spotsK_any (xss : List (List Wnt)) (hwf : ∀ xs ∈ xss, ∀ x ∈ xs, wfW x) (A : Option Addr) (c : Nat) (w : World) (hl : xss.length ≤ 8) (h6 : ∀ xs ∈ xss, xs.length ≤ 6) (hr : RdK w w.heap.size wcells A xss) :
    Calls Tryd.prog 106 #[.slice A xss.length c] w fun e w' => ∃ (A' : Option Addr) (c' : Nat) (ss : List Sp), e = .returned (.slice A' ss.length c') ∧ w'.ownsRow w.heap.size 107 6 (.slice A' ss.length c') ss.length (ss.flatMap spcells) ∧ ss.map (·.1) = coT xss xss.length ∧ (∀ s ∈ ss, okK xss w s) ∧ Below w.heap.size w w' := by
  obtain ⟨i0, hi, hz0, hz1, hz2⟩ := info_parts Tryd.infoSP
  have HI := Lib.hid hi
  have HZ0 := Lib.hid hz0
  have HZ1 := Lib.hid hz1
  have HZ2 := Lib.hid hz2
  clear hi hz0 hz1 hz2
  have HR := Lib.hid hr
  have HW := Lib.hid hwf
  have H6 := Lib.hid h6
  clear hr hwf h6
  go_enter Tryd.func106, Tryd.ntmps106
  go_wp2_with fail
  go_loopw [3, 10] (fun v i wr => ∃ (k : Nat) (ss : List Sp) (A1 : Option Addr) (c1 : Nat), k ≤ xss.length ∧ i = .int .i64 k ∧ v = .slice A1 ss.length c1 ∧ wr.ownsRow w.heap.size 107 6 (.slice A1 ss.length c1) ss.length (ss.flatMap spcells) ∧ ss.map (·.1) = coT xss k ∧ (∀ s ∈ ss, okK xss w s) ∧ Below w.heap.size w wr)
    (fun _ i _ => xss.length - (intOf i).toNat)
  case atStart => exact ⟨0, [], _, _, by omega, rfl, rfl, ⟨rfl, .inl ⟨rfl, rfl⟩⟩, rfl, by simp, Below.refl _ _⟩
  case round =>
    obtain ⟨k, ss, A1, c1, hk, rfl, rfl, hO, hC, hS, hB⟩ := hrel
    have HO := Lib.hid hO
    have HC := Lib.hid hC
    have HS := Lib.hid hS
    have HB := Lib.hid hB
    clear hO hC hS hB
    by_cases hlt : k < xss.length
    · obtain ⟨xs, hxs⟩ : ∃ x, xss[k]? = some x := ⟨_, List.getElem?_eq_getElem hlt⟩
      have hxl := H6.out xs (List.mem_of_getElem? hxs)
      obtain ⟨bA, oA, a', c', hAe, hg, hc, hcap, hrd⟩ := HR.out.at_ hxs
      subst hAe
      have HCs := Lib.hid (coT_succ hxs)
      have hlen : ss.length ≤ 6 * k := by have := coT_le H6.out k; rw [← HC.out] at this; simpa using this
      have HWx : Hid (∀ x ∈ xs, wfW x) := HW.out xs (List.mem_of_getElem? hxs)
      have HXs := Lib.hid hxs
      have HC0 := Lib.hid hc
      have HRd := Lib.hid hrd
      have HCap := Lib.hid hcap
      have e1 := (HB.out.cell (p := ⟨bA, oA + k, none⟩) hg).trans hc
      have hk0 : (0 : Int) ≤ (k : Int) := Int.natCast_nonneg _
      have hk8 : (k : Int) < xss.length := by omega
      clear hxs hc hrd
      obtain ⟨s0, hs0⟩ : ∃ s0, ss = s0 := ⟨_, rfl⟩
      go_wp2_with fail
      clear e1
      go_loopw [3, 17] (fun v i wr => ∃ (m : Nat) (ss : List Sp) (A1 : Option Addr) (c1 : Nat), m ≤ xs.length ∧ i = .int .i64 m ∧ v = .slice A1 ss.length c1 ∧ wr.ownsRow w.heap.size 107 6 (.slice A1 ss.length c1) ss.length (ss.flatMap spcells) ∧ ss.map (·.1) = coT xss k ++ coR xs k m ∧ (∀ s ∈ ss, okK xss w s) ∧ Below w.heap.size w wr)
        (fun _ i _ => xs.length - (intOf i).toNat)
      case atStart => exact ⟨0, ss, A1, c1, by omega, rfl, rfl, HO.out, by rw [HC.out]; simp [coR], HS.out, HB.out⟩
      case round =>
        clear HO HC HS HB hs0 hlen
        obtain ⟨m, ss, A1, c1, hm, rfl, rfl, hO, hC, hS, hB⟩ := hrel
        have HO := Lib.hid hO
        have HC := Lib.hid hC
        have HS := Lib.hid hS
        have HB := Lib.hid hB
        clear hO hC hS hB
        have hm0 : (0 : Int) ≤ (m : Int) := Int.natCast_nonneg _
        by_cases hlt2 : m < xs.length
        · obtain ⟨⟨⟨k1, y1⟩, d⟩, hx⟩ : ∃ x, xs[m]? = some x := ⟨_, List.getElem?_eq_getElem hlt2⟩
          have hlen : ss.length ≤ 54 := by
            have h1 := coT_le H6.out k
            have h2 : (ss.map (·.1)).length = (coT xss k ++ coR xs k m).length := by rw [HC.out]
            rw [List.length_map, List.length_append, coR_len] at h2
            omega
          obtain ⟨q1, q2, q3⟩ := HWx.out _ (List.mem_of_getElem? hx)
          obtain ⟨b1, o1, he, hg1, hrow⟩ := (HRd.out.keep HB.out).at_ wcells_length hx
          subst he
          obtain ⟨D1, D2, D3⟩ := rowW hrow
          have HCs2 := Lib.hid (coR_succ (l := k) hx)
          have HXm := Lib.hid hx
          have hm8 : (m : Int) < xs.length := by omega
          clear hx hrow
          go_wp2_with fail
          have hbx : Below wr.heap.size wr (wr.alloc (.cells #[.int .u8 k1, .int .i16 y1, .int .i16 d] 30)) := (Below.refl _ wr).alloc (Nat.le_refl _) _
          have hbw : Below w.heap.size w (wr.alloc (.cells #[.int .u8 k1, .int .i16 y1, .int .i16 d] 30)) := HB.out.trans (hbx.mono HB.out.size)
          refine (spotAt_any (some ⟨bA, oA, none⟩) xss.length c k (m : Int) k1 y1 d (some ⟨b1, o1, none⟩) xs.length c' _ ⟨q2, q3⟩ hlt (by omega) bA oA rfl (Nat.lt_of_lt_of_le hg hbw.size) ((hbw.cell (p := ⟨bA, oA + k, none⟩) hg).trans HC0.out)).mono ?_
          rintro e w2 ⟨rfl, hb⟩
          have HB2 : Hid (Below w.heap.size w w2) := hbw.trans (hb.mono hbw.size)
          have HBr : Hid (Below wr.heap.size wr w2) := hbx.trans (hb.mono hbx.size)
          clear hb hbx hbw D1 D2 D3
          unfold spC
          have HO2 := Lib.hid (own_keep' HO.out HBr.out)
          go_wp2_with (at_builtin; refine wpList_append_any _ rfl (.tmp 22) (.tmp 28) 134 134 rfl w.heap.size 107 i0 (.agg #[.int .u8 0, .int .i16 0, .int .i64 0, .int .i64 0, .int .i64 0, .slice none 0 0]) 6 56 Tryd.underlying134 HI.out HZ0.out HZ1.out HZ2.out rfl (by decide) (.slice A1 ss.length c1) ss.length (ss.flatMap spcells) rfl ?own2 _ 1 [.int .u8 k1, .int .i16 y1, .int .i64 d, .int .i64 k, .int .i64 m, .slice (some ⟨b1, o1, none⟩) xs.length c'] rfl ?src2 ?d3 ?d4 ?d5 ?_)
          case own2 => exact HO2.out.alloc _
          case src2 => exact Src.ofSlice _ Tryd.underlying134 ⟨w2.heap.size, 0, none⟩ 1 1 _ rfl (six_cells w2 _ _ _ _ _ _ _) (by intro u hu; simp only [List.mem_cons, List.not_mem_nil, or_false] at hu; rcases hu with rfl | rfl | rfl | rfl | rfl | rfl <;> rfl)
          case d3 => unfold maxLen; omega
          case d4 => omega
          case d5 => have := HB2.out.size; simp; omega
          intro v4 w4 hown4 hg4 _
          rw [ownBlock_slice] at hg4
          obtain ⟨s, hs⟩ : ∃ s : Sp, s = ((((k1, y1), d), k, m), (some ⟨b1, o1, none⟩, xs.length, c')) := ⟨_, rfl⟩
          have hown5 : w4.ownsRow w.heap.size 107 6 v4 (ss ++ [s]).length ((ss ++ [s]).flatMap spcells) := by rw [List.length_append, List.flatMap_append]; subst hs; simpa [spcells] using hown4
          obtain ⟨A4, c4, rfl, -, -⟩ := own_rd spcells_length hown5
          have hsl : (ss ++ [s]).length = ss.length + 1 := by simp
          have HO5 := Lib.hid hown5
          have HB4 : Hid (Below w.heap.size w w4) := (bal2 HB2.out _).grown hg4 (by have := HB2.out.size; simp; omega) (fun q e => gk_ge HO2.out q e)
          have HS5 : Hid (∀ t ∈ ss ++ [s], okK xss w t) := by
            intro t ht
            rcases List.mem_append.1 ht with h | h
            · exact HS.out t h
            · obtain rfl : t = s := by simpa using h
              subst hs
              exact ⟨xs, some ⟨b1, o1, none⟩, c', HXs.out, HXm.out, rfl, HCap.out, HRd.out⟩
          have HC5 : Hid ((ss ++ [s]).map (·.1) = coT xss k ++ coR xs k (m + 1)) := by
            show (ss ++ [s]).map (·.1) = _
            rw [List.map_append, HC.out, HCs2.out, List.append_assoc, hs]; rfl
          clear hown4 hown5 hg4 hsl hs
          obtain ⟨S2, hS2⟩ : ∃ S2, ss ++ [s] = S2 := ⟨_, rfl⟩
          rw [hS2] at HO5 HS5 HC5 ⊢
          clear hS2
          go_wp2
          go_roundw
          case rel => exact ⟨m + 1, S2, A4, c4, by omega, by go_num, rfl, HO5.out, HC5.out, HS5.out, HB4.out⟩
          case measure => simp [intOf]; omega
        · obtain rfl : m = xs.length := by omega
          go_wp2
          go_roundw
          case rel => exact ⟨k + 1, ss, A1, c1, by omega, by go_num, rfl, HO.out, by rw [HC.out, HCs.out], HS.out, HB.out⟩
          case measure => simp [intOf]; omega
    · obtain rfl : k = xss.length := by omega
      go_wp2
      go_ret
      exact ⟨_, _, ss, rfl, HO.out, HC.out, HS.out, HB.out⟩
end Go.Proofs.YtmfdgpinohbckaaDoor

namespace Go.Proofs.YtmfdgpinohbckaaDoor
open Go.ChangeShapes Go.WideShapes Go.ChangeAt Go.RowKit Go.Deep

/-- Is a spot's bottle like one, and stored until a day? -/
def lkB (k y last : Int) (s : Sp) : Bool := (decide (s.1.1.1.1 = k) && decide (s.1.1.1.2 = y)) && decide (s.1.1.2 ≤ last)
theorem isLike_any (k1 y1 k y : Int) (w : World) : Calls Tryd.prog 108 #[.agg #[.int .u8 k1, .int .i16 y1], .agg #[.int .u8 k, .int .i16 y]] w fun e w' => e = .returned (.bool (decide (k1 = k) && decide (y1 = y))) ∧ Below w.heap.size w w' := by
  have hB : Below w.heap.size w ((w.alloc (.cells #[.int .u8 k1, .int .i16 y1] 28)).alloc (.cells #[.int .u8 k, .int .i16 y] 28)) := by
    have q : Below w.heap.size w (w.alloc (.cells #[.int .u8 k1, .int .i16 y1] 28)) := (Below.refl _ w).alloc (Nat.le_refl _) _
    exact q.alloc q.size _
  have HB := Lib.hid hB
  clear hB
  by_cases hk : k1 = k
  · subst hk
    by_cases hy : y1 = y
    · subst hy
      rw [decide_eq_true rfl, decide_eq_true rfl]
      go_enter Tryd.func108, Tryd.ntmps108
      go_wp2
      go_ret
      exact ⟨by first | rfl | simp, HB.out⟩
    · rw [decide_eq_true rfl, decide_eq_false hy]
      go_enter Tryd.func108, Tryd.ntmps108
      go_wp2
      go_ret
      exact ⟨by first | rfl | simp [hy], HB.out⟩
  · rw [decide_eq_false hk]
    go_enter Tryd.func108, Tryd.ntmps108
    go_wp2
    go_ret
    exact ⟨by first | rfl | simp [hk], HB.out⟩
theorem likeCl_any (s : Sp) (k y last : Int) (B1 B2 : Nat) (w : World) (h0 : w.cell? ⟨B1, 0, none⟩ = some (.int .u8 k)) (h1 : w.cell? ⟨B1, 1, none⟩ = some (.int .i16 y)) (h2 : w.cell? ⟨B2, 0, none⟩ = some (.int .i64 last)) :
    Calls Tryd.prog 107 #[.agg (spcells s).toArray, .pointer (some ⟨B1, 0, none⟩), .pointer (some ⟨B2, 0, none⟩)] w fun e w' => e = .returned (.bool (!lkB k y last s)) ∧ Below w.heap.size w w' := by
  obtain ⟨⟨⟨⟨k1, y1⟩, d⟩, l, i⟩, a, n, c⟩ := s
  show Calls Tryd.prog 107 #[.agg #[.int .u8 k1, .int .i16 y1, .int .i64 d, .int .i64 l, .int .i64 i, .slice a n c], .pointer (some ⟨B1, 0, none⟩), .pointer (some ⟨B2, 0, none⟩)] w _
  have hb1 := block_lt_of_cell h0
  have hb2 := block_lt_of_cell h2
  dsimp only at hb1 hb2
  unfold lkB
  dsimp only
  have hA : Below w.heap.size w (w.alloc (.cells #[.int .u8 k1, .int .i16 y1, .int .i64 d, .int .i64 l, .int .i64 i, .slice a n c] 107)) := (Below.refl _ w).alloc (Nat.le_refl _) _
  have hK : Blk (w.alloc (.cells #[.int .u8 k1, .int .i16 y1, .int .i64 d, .int .i64 l, .int .i64 i, .slice a n c] 107)) w.heap.size 107 #[.int .u8 k1, .int .i16 y1, .int .i64 d, .int .i64 l, .int .i64 i, .slice a n c] := Blk.new w _ _
  have e0 : (w.alloc (.cells #[.int .u8 k1, .int .i16 y1, .int .i64 d, .int .i64 l, .int .i64 i, .slice a n c] 107)).cell? ⟨B1, 0, none⟩ = some (.int .u8 k) := (hA.cell (p := ⟨B1, 0, none⟩) hb1).trans h0
  have e1 : (w.alloc (.cells #[.int .u8 k1, .int .i16 y1, .int .i64 d, .int .i64 l, .int .i64 i, .slice a n c] 107)).cell? ⟨B1, 1, none⟩ = some (.int .i16 y) := (hA.cell (p := ⟨B1, 1, none⟩) hb1).trans h1
  have e2 : (w.alloc (.cells #[.int .u8 k1, .int .i16 y1, .int .i64 d, .int .i64 l, .int .i64 i, .slice a n c] 107)).cell? ⟨B2, 0, none⟩ = some (.int .i64 last) := (hA.cell (p := ⟨B2, 0, none⟩) hb2).trans h2
  have HA := Lib.hid hA
  have HK := Lib.hid hK
  have HE2 := Lib.hid e2
  clear hA hK
  go_enter Tryd.func107, Tryd.ntmps107
  go_wp2_with fail
  refine (isLike_any k1 y1 k y _).mono ?_
  rintro e w2 ⟨rfl, hb⟩
  have HB2 : Hid (Below w.heap.size w w2) := HA.out.trans (hb.mono HA.out.size)
  have f1 : w2.cell? ⟨w.heap.size, 2, none⟩ = some (.int .i64 d) := (HK.out.keep hb).cell 2
  have f2 : w2.cell? ⟨B2, 0, none⟩ = some (.int .i64 last) := (hb.cell (p := ⟨B2, 0, none⟩) (block_lt_of_cell HE2.out)).trans HE2.out
  clear e0 e1 e2 hb
  cases hv : (decide (k1 = k) && decide (y1 = y))
  · have E : Hid ((!((decide (k1 = k) && decide (y1 = y)) && decide (d ≤ last))) = true) := by show _ = _; rw [hv]; rfl
    clear hv
    go_wp2
    go_ret
    exact ⟨by rw [E.out]; first | done | rfl, HB2.out⟩
  · by_cases hd : d ≤ last
    · have hd2 : ¬ last < d := by omega
      have E : Hid ((!((decide (k1 = k) && decide (y1 = y)) && decide (d ≤ last))) = false) := by show _ = _; rw [hv, decide_eq_true hd]; rfl
      clear hv hd
      go_wp2
      go_ret
      exact ⟨by rw [E.out]; first | done | rfl | simp [hd2] | (simp; omega), HB2.out⟩
    · have hd2 : last < d := by omega
      have E : Hid ((!((decide (k1 = k) && decide (y1 = y)) && decide (d ≤ last))) = true) := by show _ = _; rw [hv, decide_eq_false hd]; rfl
      clear hv hd
      go_wp2
      go_ret
      exact ⟨by rw [E.out]; first | done | rfl | simp [hd2] | (simp; omega), HB2.out⟩

/-- All ahead of k are so. -/
def AllS (g : Sp → Bool) (qs : List Sp) (k : Nat) : Prop := ∀ j x, j < k → qs[j]? = some x → g x = true
theorem Tryd.sizeSPt : (Tryd.prog.info? 107).map (·.size) = some 6 := by kernel_rfl
set_option maxRecDepth 100000 in
set_option maxHeartbeats 4000000 in
theorem indexSp_any (g : Sp → Bool) (qs : List Sp) (hq : qs.length ≤ 64) (D1 D2 : Nat) (A : Option Addr) (c : Nat) (w : World) (hr : Rd w w.heap.size spcells A qs)
    (HCf : ∀ p ∈ qs, ∀ (W : World), Below w.heap.size w W → Calls Tryd.prog 107 #[.agg (spcells p).toArray, .pointer (some ⟨D1, 0, none⟩), .pointer (some ⟨D2, 0, none⟩)] W fun e w' => e = .returned (.bool (!g p)) ∧ Below W.heap.size W w') :
    Calls Tryd.prog 102 #[.slice A qs.length c, .func (.func 107) #[] #[.pointer (some ⟨D1, 0, none⟩), .pointer (some ⟨D2, 0, none⟩)]] w fun e w' => ((e = .returned (.int .i64 (-1)) ∧ AllS g qs qs.length) ∨ ∃ (k : Nat) (x : Sp), e = .returned (.int .i64 k) ∧ qs[k]? = some x ∧ g x = false ∧ AllS g qs k) ∧ Below w.heap.size w w' := by
  have HR := Lib.hid hr
  have HC := Lib.hid HCf
  clear hr HCf
  have hn0 : (0 : Int) ≤ (qs.length : Int) := Int.natCast_nonneg _
  go_enter Tryd.func102, Tryd.ntmps102
  go_wp2_with fail
  go_loopw [8] (fun i wr => ∃ (k : Nat), k ≤ qs.length ∧ i = .int .i64 k ∧ AllS g qs k ∧ Below w.heap.size w wr) (fun i _ => qs.length - (intOf i).toNat)
  case atStart => exact ⟨0, by omega, rfl, fun j x h => absurd h (by omega), Below.refl _ _⟩
  case round =>
    obtain ⟨k, hk, rfl, hT, hB⟩ := hrel
    obtain ⟨wa, rfl⟩ : ∃ u, u = wr := ⟨_, rfl⟩
    have HT := Lib.hid hT
    have HB := Lib.hid hB
    clear hT hB
    by_cases hlt : k < qs.length
    · obtain ⟨x, hx⟩ : ∃ x, qs[k]? = some x := ⟨_, List.getElem?_eq_getElem hlt⟩
      obtain ⟨b, o, rfl, hbl, hrow⟩ := (HR.out.below (Nat.le_refl _) HB.out).at_ spcells_length hx
      have HX := Lib.hid hx
      have HRow := Lib.hid hrow
      have HCx := Lib.hid (HC.out x (List.mem_of_getElem? hx) wa HB.out)
      have hk0 : (0 : Int) ≤ (k : Int) := Int.natCast_nonneg _
      have hk8 : (k : Int) < qs.length := by omega
      clear hx hrow
      cases hv : g x
      · rw [hv] at HCx
        have HV := Lib.hid hv
        clear hv
        go_wp2_with (refine wpList_load_mid rfl 107 (.tmp 14) rfl b (o + k * 6) rfl (spcells x) _ HRow.out Tryd.underlying107 rfl Tryd.sizeSPt ?_)
        refine HCx.out.mono ?_
        rintro e w1 ⟨rfl, hb1⟩
        have HB1 : Hid (Below w.heap.size w w1) := HB.out.trans (hb1.mono HB.out.size)
        clear hb1
        go_wp2
        go_ret
        exact ⟨.inr ⟨k, x, rfl, HX.out, HV.out, HT.out⟩, HB1.out⟩
      · rw [hv] at HCx
        have HV := Lib.hid hv
        clear hv
        go_wp2_with (refine wpList_load_mid rfl 107 (.tmp 14) rfl b (o + k * 6) rfl (spcells x) _ HRow.out Tryd.underlying107 rfl Tryd.sizeSPt ?_)
        refine HCx.out.mono ?_
        rintro e w1 ⟨rfl, hb1⟩
        have HB1 : Hid (Below w.heap.size w w1) := HB.out.trans (hb1.mono HB.out.size)
        clear hb1
        go_wp2
        go_roundw
        case rel =>
          refine ⟨k + 1, by omega, by go_num, fun j z hj hz => ?_, HB1.out⟩
          by_cases e : j = k
          · subst e
            rw [HX.out] at hz
            obtain rfl := Option.some.inj hz
            exact HV.out
          · exact HT.out j z (by omega) hz
        case measure => simp [intOf]; omega
    · obtain rfl : k = qs.length := by omega
      go_wp2
      go_ret
      exact ⟨.inl ⟨rfl, HT.out⟩, HB.out⟩
end Go.Proofs.YtmfdgpinohbckaaDoor
