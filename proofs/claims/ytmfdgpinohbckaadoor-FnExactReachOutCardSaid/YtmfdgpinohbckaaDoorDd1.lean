/-
  Spots that are alike: the closure that drops the others, IndexFunc over spots with it. Condition: the captured bottle and day lie where the closure points.
-/
import Derived.Test.YtmfdgpinohbckaaDoorBk2
namespace Go.Proofs.YtmfdgpinohbckaaDoor
open Go.ChangeShapes Go.WideShapes Go.ChangeAt Go.RowKit Go.Deep

/-- Is a spot's bottle like one, and stored until a day? -/
def lkB (k y last : Int) (s : Sp) : Bool := (decide (s.1.1.1.1 = k) && decide (s.1.1.1.2 = y)) && decide (s.1.1.2 ≤ last)
theorem isLike_any (k1 y1 k y : Int) (w : World) : Calls Tryd.prog 108 #[.agg #[.int .u8 k1, .int .i16 y1], .agg #[.int .u8 k, .int .i16 y]] w fun e w' => e = .returned (.bool (decide (k1 = k) && decide (y1 = y))) ∧ Below w.heap.size w w' := by
  have hB : Below w.heap.size w ((w.alloc (.cells #[.int .u8 k1, .int .i16 y1] 28)).alloc (.cells #[.int .u8 k, .int .i16 y] 28)) := by
    have q : Below w.heap.size w (w.alloc (.cells #[.int .u8 k1, .int .i16 y1] 28)) := (Below.refl _ w).alloc (Nat.le_refl _) _
    exact q.alloc q.size _
  have HB := Lib.hid hB
  clear hB
  by_cases hk : k1 = k
  · subst hk
    by_cases hy : y1 = y
    · subst hy
      rw [decide_eq_true rfl, decide_eq_true rfl]
      go_enter Tryd.func108, Tryd.ntmps108
      go_wp2
      go_ret
      exact ⟨by first | rfl | simp, HB.out⟩
    · rw [decide_eq_true rfl, decide_eq_false hy]
      go_enter Tryd.func108, Tryd.ntmps108
      go_wp2
      go_ret
      exact ⟨by first | rfl | simp [hy], HB.out⟩
  · rw [decide_eq_false hk]
    go_enter Tryd.func108, Tryd.ntmps108
    go_wp2
    go_ret
    exact ⟨by first | rfl | simp [hk], HB.out⟩
theorem likeCl_any (s : Sp) (k y last : Int) (B1 B2 : Nat) (w : World) (h0 : w.cell? ⟨B1, 0, none⟩ = some (.int .u8 k)) (h1 : w.cell? ⟨B1, 1, none⟩ = some (.int .i16 y)) (h2 : w.cell? ⟨B2, 0, none⟩ = some (.int .i64 last)) :
    Calls Tryd.prog 107 #[.agg (spcells s).toArray, .pointer (some ⟨B1, 0, none⟩), .pointer (some ⟨B2, 0, none⟩)] w fun e w' => e = .returned (.bool (!lkB k y last s)) ∧ Below w.heap.size w w' := by
  obtain ⟨⟨⟨⟨k1, y1⟩, d⟩, l, i⟩, a, n, c⟩ := s
  show Calls Tryd.prog 107 #[.agg #[.int .u8 k1, .int .i16 y1, .int .i64 d, .int .i64 l, .int .i64 i, .slice a n c], .pointer (some ⟨B1, 0, none⟩), .pointer (some ⟨B2, 0, none⟩)] w _
  have hb1 := block_lt_of_cell h0
  have hb2 := block_lt_of_cell h2
  dsimp only at hb1 hb2
  unfold lkB
  dsimp only
  have hA : Below w.heap.size w (w.alloc (.cells #[.int .u8 k1, .int .i16 y1, .int .i64 d, .int .i64 l, .int .i64 i, .slice a n c] 107)) := (Below.refl _ w).alloc (Nat.le_refl _) _
  have hK : Blk (w.alloc (.cells #[.int .u8 k1, .int .i16 y1, .int .i64 d, .int .i64 l, .int .i64 i, .slice a n c] 107)) w.heap.size 107 #[.int .u8 k1, .int .i16 y1, .int .i64 d, .int .i64 l, .int .i64 i, .slice a n c] := Blk.new w _ _
  have e0 : (w.alloc (.cells #[.int .u8 k1, .int .i16 y1, .int .i64 d, .int .i64 l, .int .i64 i, .slice a n c] 107)).cell? ⟨B1, 0, none⟩ = some (.int .u8 k) := (hA.cell (p := ⟨B1, 0, none⟩) hb1).trans h0
  have e1 : (w.alloc (.cells #[.int .u8 k1, .int .i16 y1, .int .i64 d, .int .i64 l, .int .i64 i, .slice a n c] 107)).cell? ⟨B1, 1, none⟩ = some (.int .i16 y) := (hA.cell (p := ⟨B1, 1, none⟩) hb1).trans h1
  have e2 : (w.alloc (.cells #[.int .u8 k1, .int .i16 y1, .int .i64 d, .int .i64 l, .int .i64 i, .slice a n c] 107)).cell? ⟨B2, 0, none⟩ = some (.int .i64 last) := (hA.cell (p := ⟨B2, 0, none⟩) hb2).trans h2
  have HA := Lib.hid hA
  have HK := Lib.hid hK
  have HE2 := Lib.hid e2
  clear hA hK
  go_enter Tryd.func107, Tryd.ntmps107
  go_wp2_with fail
  refine (isLike_any k1 y1 k y _).mono ?_
  rintro e w2 ⟨rfl, hb⟩
  have HB2 : Hid (Below w.heap.size w w2) := HA.out.trans (hb.mono HA.out.size)
  have f1 : w2.cell? ⟨w.heap.size, 2, none⟩ = some (.int .i64 d) := (HK.out.keep hb).cell 2
  have f2 : w2.cell? ⟨B2, 0, none⟩ = some (.int .i64 last) := (hb.cell (p := ⟨B2, 0, none⟩) (block_lt_of_cell HE2.out)).trans HE2.out
  clear e0 e1 e2 hb
  cases hv : (decide (k1 = k) && decide (y1 = y))
  · have E : Hid ((!((decide (k1 = k) && decide (y1 = y)) && decide (d ≤ last))) = true) := by show _ = _; rw [hv]; rfl
    clear hv
    go_wp2
    go_ret
    exact ⟨by rw [E.out]; first | done | rfl, HB2.out⟩
  · by_cases hd : d ≤ last
    · have hd2 : ¬ last < d := by omega
      have E : Hid ((!((decide (k1 = k) && decide (y1 = y)) && decide (d ≤ last))) = false) := by show _ = _; rw [hv, decide_eq_true hd]; rfl
      clear hv hd
      go_wp2
      go_ret
      exact ⟨by rw [E.out]; first | done | rfl | simp [hd2] | (simp; omega), HB2.out⟩
    · have hd2 : last < d := by omega
      have E : Hid ((!((decide (k1 = k) && decide (y1 = y)) && decide (d ≤ last))) = true) := by show _ = _; rw [hv, decide_eq_false hd]; rfl
      clear hv hd
      go_wp2
      go_ret
      exact ⟨by rw [E.out]; first | done | rfl | simp [hd2] | (simp; omega), HB2.out⟩

/-- All ahead of k are so. -/
def AllS (g : Sp → Bool) (qs : List Sp) (k : Nat) : Prop := ∀ j x, j < k → qs[j]? = some x → g x = true
theorem Tryd.sizeSPt : (Tryd.prog.info? 107).map (·.size) = some 6 := by kernel_rfl
set_option maxRecDepth 100000 in
set_option maxHeartbeats 4000000 in
theorem indexSp_any (g : Sp → Bool) (qs : List Sp) (hq : qs.length ≤ 64) (D1 D2 : Nat) (A : Option Addr) (c : Nat) (w : World) (hr : Rd w w.heap.size spcells A qs)
    (HCf : ∀ p ∈ qs, ∀ (W : World), Below w.heap.size w W → Calls Tryd.prog 107 #[.agg (spcells p).toArray, .pointer (some ⟨D1, 0, none⟩), .pointer (some ⟨D2, 0, none⟩)] W fun e w' => e = .returned (.bool (!g p)) ∧ Below W.heap.size W w') :
    Calls Tryd.prog 102 #[.slice A qs.length c, .func (.func 107) #[] #[.pointer (some ⟨D1, 0, none⟩), .pointer (some ⟨D2, 0, none⟩)]] w fun e w' => ((e = .returned (.int .i64 (-1)) ∧ AllS g qs qs.length) ∨ ∃ (k : Nat) (x : Sp), e = .returned (.int .i64 k) ∧ qs[k]? = some x ∧ g x = false ∧ AllS g qs k) ∧ Below w.heap.size w w' := by
  have HR := Lib.hid hr
  have HC := Lib.hid HCf
  clear hr HCf
  have hn0 : (0 : Int) ≤ (qs.length : Int) := Int.natCast_nonneg _
  go_enter Tryd.func102, Tryd.ntmps102
  go_wp2_with fail
  go_loopw [8] (fun i wr => ∃ (k : Nat), k ≤ qs.length ∧ i = .int .i64 k ∧ AllS g qs k ∧ Below w.heap.size w wr) (fun i _ => qs.length - (intOf i).toNat)
  case atStart => exact ⟨0, by omega, rfl, fun j x h => absurd h (by omega), Below.refl _ _⟩
  case round =>
    obtain ⟨k, hk, rfl, hT, hB⟩ := hrel
    obtain ⟨wa, rfl⟩ : ∃ u, u = wr := ⟨_, rfl⟩
    have HT := Lib.hid hT
    have HB := Lib.hid hB
    clear hT hB
    by_cases hlt : k < qs.length
    · obtain ⟨x, hx⟩ : ∃ x, qs[k]? = some x := ⟨_, List.getElem?_eq_getElem hlt⟩
      obtain ⟨b, o, rfl, hbl, hrow⟩ := (HR.out.below (Nat.le_refl _) HB.out).at_ spcells_length hx
      have HX := Lib.hid hx
      have HRow := Lib.hid hrow
      have HCx := Lib.hid (HC.out x (List.mem_of_getElem? hx) wa HB.out)
      have hk0 : (0 : Int) ≤ (k : Int) := Int.natCast_nonneg _
      have hk8 : (k : Int) < qs.length := by omega
      clear hx hrow
      cases hv : g x
      · rw [hv] at HCx
        have HV := Lib.hid hv
        clear hv
        go_wp2_with (refine wpList_load_mid rfl 107 (.tmp 14) rfl b (o + k * 6) rfl (spcells x) _ HRow.out Tryd.underlying107 rfl Tryd.sizeSPt ?_)
        refine HCx.out.mono ?_
        rintro e w1 ⟨rfl, hb1⟩
        have HB1 : Hid (Below w.heap.size w w1) := HB.out.trans (hb1.mono HB.out.size)
        clear hb1
        go_wp2
        go_ret
        exact ⟨.inr ⟨k, x, rfl, HX.out, HV.out, HT.out⟩, HB1.out⟩
      · rw [hv] at HCx
        have HV := Lib.hid hv
        clear hv
        go_wp2_with (refine wpList_load_mid rfl 107 (.tmp 14) rfl b (o + k * 6) rfl (spcells x) _ HRow.out Tryd.underlying107 rfl Tryd.sizeSPt ?_)
        refine HCx.out.mono ?_
        rintro e w1 ⟨rfl, hb1⟩
        have HB1 : Hid (Below w.heap.size w w1) := HB.out.trans (hb1.mono HB.out.size)
        clear hb1
        go_wp2
        go_roundw
        case rel =>
          refine ⟨k + 1, by omega, by go_num, fun j z hj hz => ?_, HB1.out⟩
          by_cases e : j = k
          · subst e
            rw [HX.out] at hz
            obtain rfl := Option.some.inj hz
            exact HV.out
          · exact HT.out j z (by omega) hz
        case measure => simp [intOf]; omega
    · obtain rfl : k = qs.length := by omega
      go_wp2
      go_ret
      exact ⟨.inl ⟨rfl, HT.out⟩, HB.out⟩
end Go.Proofs.YtmfdgpinohbckaaDoor
