/-
  Pairs: the contracts of both WinnerOf. Condition: the sentinel errors lie as the row lists them.
-/
import Derived.Test.YtglhjdnencpdiaaDoorZc
namespace Go.Proofs.YtglhjdnencpdiaaDoor
open Go.ChangeShapes Go.WideShapes Go.ChangeAt Go.RowKit Go.Deep

/-- Whether s wins against b. -/
def beats (f : Nat → Nat → Nat) (s b : Nat) : Bool := decide (f b s < f s b)
def winF (f : Nat → Nat → Nat) (s : Nat) : Nat → Nat → Bool := fun i k => decide (i = s) && beats f i k
def allW (f : Nat → Nat → Nat) (s : Nat) : Nat → Bool
  | 0 => true
  | k + 1 => allW f s k && (decide (s = k) || beats f s k)
theorem thK_winO {f : Nat → Nat → Nat} {s i : Nat} (h : i ≠ s) : ∀ k, thK (winF f s) i k = []
  | 0 => rfl
  | k + 1 => by
    rw [thK, thK_winO h k, winF, decide_eq_false h]; rfl
theorem thI_winL (f : Nat → Nat → Nat) (s n : Nat) : ∀ i, (thI (winF f s) n i).length = if s < i then (thK (winF f s) s n).length else 0
  | 0 => by simp [thI]
  | i + 1 => by
    rw [thI, List.length_append, thI_winL f s n i]
    by_cases e : i = s
    · subst e
      rw [if_neg (by omega), if_pos (by omega), Nat.zero_add]
    · rw [thK_winO e]
      by_cases h : s < i
      · rw [if_pos h, if_pos (by omega)]; rfl
      · rw [if_neg h, if_neg (by omega)]; rfl
theorem beats_self (f : Nat → Nat → Nat) (s : Nat) : beats f s s = false := by unfold beats; exact decide_eq_false (by omega)
/-- So many others there are among the first k; and so many are beaten if and only if all are. -/
theorem thK_winC (f : Nat → Nat → Nat) (s : Nat) : ∀ k, (thK (winF f s) s k).length + (if s < k then 1 else 0) ≤ k ∧ ((thK (winF f s) s k).length + (if s < k then 1 else 0) = k ↔ allW f s k = true)
  | 0 => by simp [thK, allW]
  | k + 1 => by
    obtain ⟨h1, h2⟩ := thK_winC f s k
    have hw : winF f s s k = beats f s k := by simp [winF]
    by_cases e : s = k
    · subst e
      rw [thK_no (by rw [hw, beats_self]), allW]
      simp only [Nat.lt_irrefl, if_false, Nat.add_zero] at h1 h2
      rw [if_pos (by omega), decide_eq_true rfl]
      simp only [Bool.true_or, Bool.and_true]
      exact ⟨by omega, by rw [← h2]; omega⟩
    · have e2 : (if s < k + 1 then 1 else 0) = (if s < k then 1 else 0) := by
        by_cases h : s < k
        · rw [if_pos h, if_pos (by omega)]
        · rw [if_neg h, if_neg (by omega)]
      rw [e2, allW, decide_eq_false e, Bool.false_or]
      cases hb : beats f s k
      · rw [thK_no (by rw [hw, hb])]
        simp only [Bool.and_false]
        exact ⟨by omega, by simp; omega⟩
      · rw [thK_yes (by rw [hw, hb]), List.length_append]
        simp only [Bool.and_true, List.length_cons, List.length_nil]
        exact ⟨by omega, by rw [← h2]; omega⟩
theorem win_iff {f : Nat → Nat → Nat} {s n : Nat} (hs : s < n) : ((thI (winF f s) n n).length : Int) = (n : Int) - 1 ↔ allW f s n = true := by
  obtain ⟨h1, h2⟩ := thK_winC f s n
  rw [thI_winL, if_pos hs, ← h2, if_pos hs]
  omega
/-- The first who beats all others. -/
def wnO (f : Nat → Nat → Nat) (n : Nat) : Option Nat := (List.range n).find? (fun i => allW f i n)
theorem wnO_at {f : Nat → Nat → Nat} {n i : Nat} (hi : i < n) (h : allW f i n = true) (hb : ∀ j, j < i → allW f j n = false) : wnO f n = some i := by
  unfold wnO
  rw [List.find?_range_eq_some]
  exact ⟨h, by simpa using hi, fun j hj => by simp [hb j hj]⟩
theorem wnO_no {f : Nat → Nat → Nat} {n : Nat} (hb : ∀ j, j < n → allW f j n = false) : wnO f n = none := by
  unfold wnO
  rw [List.find?_eq_none]
  intro j hj
  rw [hb j (by simpa using hj)]; simp
def wnA (n : Int) (m : List (List Int)) : Int := if mkOk n m = true then (match wnO (prF m m.length) n.toNat with | some i => (i : Int) | none => 0) else 0
def wnC (n : Int) (m : List (List Int)) : Int := if mkOk n m = true then (match wnO (prF m m.length) n.toNat with | some _ => 0 | none => 6) else 1
def winI (o : Option Nat) : Int := match o with | some i => (i : Int) | none => 0
def winE (o : Option Nat) : Option Nat := match o with | some _ => none | none => some 4
theorem wn_no {n : Int} {m : List (List Int)} (h : mkOk n m = false) : wnA n m = 0 ∧ wnC n m = 1 := by simp [wnA, wnC, h]
theorem wn_some {n : Int} {m : List (List Int)} (h : mkOk n m = true) {i : Nat} (e : wnO (prF m m.length) n.toNat = some i) : wnA n m = i ∧ wnC n m = 0 := by simp [wnA, wnC, h, e]
theorem wn_none {n : Int} {m : List (List Int)} (h : mkOk n m = true) (e : wnO (prF m m.length) n.toNat = none) : wnA n m = 0 ∧ wnC n m = 6 := by simp [wnA, wnC, h, e]

set_option maxRecDepth 100000 in
set_option maxHeartbeats 8000000 in
theorem specWinner_any (n : Int) (m : List (List Int)) (A : Option Addr) (c : Nat) (w : World) (hl : m.length ≤ 1048576) (hx : ∀ xs ∈ m, xs.length ≤ 1048576) (hr : RdN w w.heap.size icells A m) :
    Calls Tryd.prog 18 #[.int .i64 n, .slice A m.length c] w fun e w' => e = .returned (.tuple #[.int .i64 (wnA n m), .int .i64 (wnC n m)]) ∧ Below w.heap.size w w' := by
  have HC := Lib.hid (l07Ok_any n m A c w hl hx hr)
  have HR := Lib.hid hr
  clear hx hr
  go_enter Tryd.func18, Tryd.ntmps18
  go_wp2_with fail
  refine HC.out.mono ?_
  rintro e w1 ⟨rfl, rfl⟩
  clear HC
  cases h0 : mkOk n m
  · have E := Lib.hid (wn_no h0)
    clear h0
    go_wp2
    go_ret2
    exact ⟨by (rw [E.out.1, E.out.2]; first | done | rfl), Below.refl _ _⟩
  have E1 : Hid (∀ i : Nat, wnO (prF m m.length) n.toNat = some i → wnA n m = i ∧ wnC n m = 0) := fun i e => wn_some h0 e
  have E2 : Hid (wnO (prF m m.length) n.toNat = none → wnA n m = 0 ∧ wnC n m = 6) := fun e => wn_none h0 e
  have HS := Lib.hid (l07Pairs_any n m h0 A c w HR.out)
  obtain ⟨⟨hn1, hn8⟩, hm12, -⟩ := mkOk_iff.1 h0
  obtain ⟨N, hN⟩ : ∃ N : Nat, n.toNat = N := ⟨_, rfl⟩
  have hnN : n = (N : Int) := by omega
  rw [hN] at E1 E2 HS
  subst hnN
  have hN8 : N ≤ 8 := by omega
  obtain ⟨f, hf⟩ : ∃ f, prF m m.length = f := ⟨_, rfl⟩
  rw [hf] at E1 E2 HS
  clear h0 hN hf
  go_wp2_with fail
  refine HS.out.mono ?_
  rintro e w2 ⟨Aq, cq, hsq, rfl, hO, hb⟩
  have HO := Lib.hid hO
  have HB := Lib.hid hb
  clear hO hb HS
  go_wp2_with fail
  go_loopw [7] (fun j wr => ∃ (i : Nat), i ≤ N ∧ j = .int .i64 i ∧ (∀ j, j < i → allW f j N = false) ∧ Below w2.heap.size w2 wr) (fun j _ => N - (intOf j).toNat)
  case atStart => exact ⟨0, by omega, rfl, fun j h => absurd h (Nat.not_lt_zero _), Below.refl _ _⟩
  case round =>
    obtain ⟨i, hi, rfl, hal, hb2⟩ := hrel
    obtain ⟨wa, rfl⟩ : ∃ u, u = wr := ⟨_, rfl⟩
    have HB2 := Lib.hid hb2
    have HAl := Lib.hid hal
    clear hb2 hal
    have hi0 : (0 : Int) ≤ (i : Int) := Int.natCast_nonneg _
    by_cases hlt : i < N
    · have hi8 : (i : Int) < N := by omega
      go_wp2_with fail
      go_loopw [8, 9] (fun v j wr => ∃ (k : Nat), k ≤ N ∧ j = .int .i64 k ∧ v = .bool (allW f i k) ∧ Below w2.heap.size w2 wr) (fun _ j _ => N - (intOf j).toNat)
      case atStart => exact ⟨0, by omega, rfl, rfl, HB2.out⟩
      case round =>
        clear HB2
        obtain ⟨k, hk, rfl, rfl, hb2⟩ := hrel
        obtain ⟨wb, rfl⟩ : ∃ u, u = wr := ⟨_, rfl⟩
        have HB2 := Lib.hid hb2
        clear hb2
        have hk0 : (0 : Int) ≤ (k : Int) := Int.natCast_nonneg _
        by_cases hlt2 : k < N
        · have hk8 : (k : Int) < N := by omega
          have HSt : Hid (allW f i (k + 1) = (allW f i k && (decide (i = k) || beats f i k))) := rfl
          have HB3 : Hid (Below w2.heap.size w2 wb.drew) := HB2.out.drew
          cases hv : allW f i k
          · have HV : Hid (allW f i (k + 1) = false) := by show _ = _; rw [HSt.out, hv]; rfl
            clear hv
            go_wp2_with fail
            go_region
            go_wp2
            go_roundw
            case rel => exact ⟨k + 1, by omega, by go_num, by rw [HV.out], by first | exact HB2.out | exact HB3.out⟩
            case measure => simp [intOf]; omega
          · by_cases hik : i = k
            · subst hik
              have HV : Hid (allW f i (i + 1) = true) := by show _ = _; rw [HSt.out, hv]; simp
              clear hv
              go_wp2_with fail
              go_region
              go_wp2
              go_roundw
              case rel => exact ⟨i + 1, by omega, by go_num, by rw [HV.out], by first | exact HB2.out | exact HB3.out⟩
              case measure => simp [intOf]; omega
            · have hne : ((i : Int) == (k : Int)) = false := by rw [beq_eq_false_iff_ne]; omega
              have hN := HO.out.keep HB2.out
              obtain ⟨gA, g1, d1, rfl, f1, -, -, f2, -, -⟩ := hN.rowAt (mat_at f hlt) (by rw [mRow_len]; omega)
              obtain ⟨gB, g2, d2, eA, f3, -, -, f4, -, -⟩ := hN.rowAt (mat_at f hlt2) (by rw [mRow_len]; omega)
              obtain rfl : gA = gB := by simpa using eA
              have f5 := f2 k _ (mRow_at f i hlt2)
              have f6 := f4 i _ (mRow_at f k hlt)
              rw [mRow_len] at f1 f3
              obtain ⟨x, hx⟩ : ∃ x : Nat, f i k = x := ⟨_, rfl⟩
              obtain ⟨y, hy⟩ : ∃ y : Nat, f k i = y := ⟨_, rfl⟩
              have HV : Hid (allW f i (k + 1) = decide (y < x)) := by show _ = _; rw [HSt.out, hv, decide_eq_false hik, beats, hx, hy, Bool.true_and, Bool.false_or]
              rw [hx] at f5
              rw [hy] at f6
              clear hN eA f2 f4 hx hy hv HSt
              by_cases hyx : y < x
              · have hyx' : (y : Int) < (x : Int) := by omega
                have HV2 : Hid (allW f i (k + 1) = true) := by show _ = _; rw [HV.out, decide_eq_true hyx]
                go_wp2_with fail
                go_region
                go_wp2
                go_roundw
                case rel => exact ⟨k + 1, by omega, by go_num, by first | (rw [HV.out]; done) | (rw [HV2.out]; done) | (rw [HV2.out]; simp [hyx]; done), by first | exact HB2.out | exact HB3.out⟩
                case measure => simp [intOf]; omega
              · have hyx' : ¬ (y : Int) < (x : Int) := by omega
                have HV2 : Hid (allW f i (k + 1) = false) := by show _ = _; rw [HV.out, decide_eq_false hyx]
                go_wp2_with fail
                go_region
                go_wp2
                go_roundw
                case rel => exact ⟨k + 1, by omega, by go_num, by first | (rw [HV.out]; done) | (rw [HV2.out]; done) | (rw [HV2.out]; simp [hyx]; done), by first | exact HB2.out | exact HB3.out⟩
                case measure => simp [intOf]; omega
        · obtain rfl : k = N := by omega
          have HB9 := Lib.hid (HB.out.trans (HB2.out.mono HB.out.size))
          cases hv : allW f i k
          · have HV := Lib.hid hv
            clear hv
            go_wp2
            go_roundw
            case rel => exact ⟨i + 1, by omega, by go_num, fun j hj => by
              by_cases e : j = i
              · subst e; exact HV.out
              · exact HAl.out j (by omega), HB2.out⟩
            case measure => simp [intOf]; omega
          · have HV := Lib.hid (E1.out i (wnO_at hlt hv HAl.out))
            clear hv
            go_wp2
            first | go_ret2 | skip
            exact ⟨by (rw [HV.out.1, HV.out.2]; first | done | rfl), HB9.out⟩
    · obtain rfl : i = N := by omega
      have HB9 := Lib.hid (HB.out.trans (HB2.out.mono HB.out.size))
      have HV := Lib.hid (E2.out (wnO_no HAl.out))
      go_wp2
      go_ret2
      exact ⟨by (rw [HV.out.1, HV.out.2]; first | done | rfl), HB9.out⟩

set_option maxRecDepth 100000 in
set_option maxHeartbeats 4000000 in
theorem winBy_any (f : Nat → Nat → Nat) (s i k : Nat) (hi : i < 9) (hk : k < 9) (ps : List Pq) (hc : ∀ a b : Nat, cntP ps ((a : Int), (b : Int)) = f a b ∨ ¬ (a < 9 ∧ b < 9)) (hlen : ps.length ≤ 6500) (B n : Nat) (D : DataW Unit) (D1 D2 : Nat) (w : World) (hO : OwnsP w B n D) (hH : Holds D ok2 kP (cntP ps)) (hd1 : w.cell? ⟨D1, 0, none⟩ = some (.int .i64 s)) (hd2 : w.cell? ⟨D2, 0, none⟩ = some (.map (some B))) :
    Calls Tryd.prog 52 #[.agg #[.int .i64 i, .int .i64 k], .pointer (some ⟨D1, 0, none⟩), .pointer (some ⟨D2, 0, none⟩)] w fun e w' => e = .returned (.bool (winF f s i k)) ∧ Below w.heap.size w w' := by
  have hB : Below w.heap.size w (w.alloc (.cells #[.int .i64 i, .int .i64 k] 53)) := (Below.refl _ w).alloc (Nat.le_refl _) _
  have hrg := pq_range w ((i : Int), (k : Int))
  have hw0 := wins_any i k hi hk ps B n D _ (hO.kept (grown_of_below hB) (by simp)) hH hlen
  have hb : beats f i k = decide (cntP ps ((k : Int), (i : Int)) < cntP ps ((i : Int), (k : Int))) := by
    have h1 := (hc i k).resolve_right (by omega)
    have h2 := (hc k i).resolve_right (by omega)
    rw [beats, h1, h2]
  rw [← hb] at hw0
  have HW := Lib.hid hw0
  have e1 := (hB.cell (p := ⟨D1, 0, none⟩) (cell_lt9 hd1)).trans hd1
  have e2 := (hB.cell (p := ⟨D2, 0, none⟩) (cell_lt9 hd2)).trans hd2
  obtain ⟨W, hW⟩ : ∃ W, w.alloc (.cells #[.int .i64 i, .int .i64 k] 53) = W := ⟨_, rfl⟩
  rw [hW] at hB hrg HW e1 e2
  have c0 : W.cell? ⟨w.heap.size, 0, none⟩ = some (.int .i64 i) := by have := hrg 0 (.int .i64 (i : Int)) (by simp [pqc]); simpa using this
  have c1 : W.cell? ⟨w.heap.size, 1, none⟩ = some (.int .i64 k) := by have := hrg 1 (.int .i64 (k : Int)) (by simp [pqc]); simpa using this
  have HB := Lib.hid hB
  clear hO hH hd1 hd2 hrg hB hw0 hb hc
  go_enter Tryd.func52, Tryd.ntmps52
  by_cases h : i = s
  · subst h
    have hv : winF f i i k = beats f i k := by simp [winF]
    rw [hv]
    go_wp2_with fail
    refine HW.out.mono ?_
    rintro e w3 ⟨rfl, hb3⟩
    have HB3 := Lib.hid (HB.out.trans (hb3.mono HB.out.size))
    clear hb3
    go_wp2
    go_ret
    exact ⟨rfl, HB3.out⟩
  · have hv : winF f s i k = false := by simp [winF, h]
    have hne : ((i : Int) == (s : Int)) = false := by rw [beq_eq_false_iff_ne]; omega
    rw [hv]
    go_wp2_with fail
    go_wp2
    go_ret
    exact ⟨rfl, HB.out⟩

set_option maxRecDepth 100000 in
set_option maxHeartbeats 4000000 in
theorem pairsWin_any (N : Nat) (hN8 : N ≤ 8) (f : Nat → Nat → Nat) (s D1 D2 : Nat) (w : World) (HCf : ∀ (i k : Nat), i < N → k < N → ∀ (W : World), Below w.heap.size w W → Calls Tryd.prog 52 #[.agg #[.int .i64 i, .int .i64 k], .pointer (some ⟨D1, 0, none⟩), .pointer (some ⟨D2, 0, none⟩)] W fun e w' => e = .returned (.bool (winF f s i k)) ∧ Below W.heap.size W w') :
    Calls Tryd.prog 35 #[.int .i64 N, .func (.func 52) #[] #[.pointer (some ⟨D1, 0, none⟩), .pointer (some ⟨D2, 0, none⟩)]] w fun e w' => ∃ A' c', e = .returned (.slice A' (thI (winF f s) N N).length c') ∧ w'.ownsRow w.heap.size 53 2 (.slice A' (thI (winF f s) N N).length c') (thI (winF f s) N N).length ((thI (winF f s) N N).flatMap pqc) ∧ Below w.heap.size w w' := by
  obtain ⟨i0, hi, hz0, hz1, hz2⟩ := info_parts Tryd.infoPq
  have HI := Lib.hid hi
  have HZ0 := Lib.hid hz0
  have HZ1 := Lib.hid hz1
  have HZ2 := Lib.hid hz2
  clear hi hz0 hz1 hz2

  have HC := Lib.hid HCf
  clear HCf
  have HO0 : Hid (w.ownsRow w.heap.size 53 2 (.slice none 0 0) (thI (winF f s) N 0).length ((thI (winF f s) N 0).flatMap pqc)) := ⟨rfl, .inl ⟨rfl, rfl⟩⟩
  have HB0 : Hid (Below w.heap.size w w) := Below.refl _ _
  go_enter Tryd.func35, Tryd.ntmps35
  go_wp2_with fail
  go_loopw [5, 10] (fun v j wr => ∃ (i : Nat) (A1 : Option Addr) (n1 c1 : Nat), i ≤ N ∧ j = .int .i64 i ∧ v = .slice A1 n1 c1 ∧ n1 = (thI (winF f s) N i).length ∧ wr.ownsRow w.heap.size 53 2 (.slice A1 n1 c1) n1 ((thI (winF f s) N i).flatMap pqc) ∧ Below w.heap.size w wr)
    (fun _ j _ => N - (intOf j).toNat)
  case atStart => exact ⟨0, none, 0, 0, by omega, rfl, rfl, rfl, HO0.out, HB0.out⟩
  case round =>
    clear HO0 HB0
    obtain ⟨i, A1, n1, c1, hi, rfl, rfl, hn1, hO, hB⟩ := hrel
    obtain ⟨wa, rfl⟩ : ∃ u, u = wr := ⟨_, rfl⟩
    have HO : Hid (n1 = (thI (winF f s) N i ++ thK (winF f s) i 0).length ∧ wa.ownsRow w.heap.size 53 2 (.slice A1 n1 c1) n1 ((thI (winF f s) N i ++ thK (winF f s) i 0).flatMap pqc)) := by
      show _ ∧ _
      rw [show thI (winF f s) N i ++ thK (winF f s) i 0 = thI (winF f s) N i from by simp [thK]]
      exact ⟨hn1, hO⟩
    have HB := Lib.hid hB
    have HN1 := Lib.hid hn1
    clear hO hB hn1
    have hi0 : (0 : Int) ≤ (i : Int) := Int.natCast_nonneg _
    by_cases hlt : i < N
    · have hi8 : (i : Int) < N := by omega
      have hl64 := thI_len64 (winF f s) hN8 (Nat.le_of_lt hlt)
      go_wp2_with fail
      clear HN1
      go_loopw [5, 14] (fun v j wr => ∃ (k : Nat) (A2 : Option Addr) (n2 c2 : Nat), k ≤ N ∧ j = .int .i64 k ∧ v = .slice A2 n2 c2 ∧ n2 = (thI (winF f s) N i ++ thK (winF f s) i k).length ∧ wr.ownsRow w.heap.size 53 2 (.slice A2 n2 c2) n2 ((thI (winF f s) N i ++ thK (winF f s) i k).flatMap pqc) ∧ Below w.heap.size w wr)
        (fun _ j _ => N - (intOf j).toNat)
      case atStart => exact ⟨0, A1, n1, c1, by omega, rfl, rfl, HO.out.1, HO.out.2, HB.out⟩
      case round =>
        clear HO HB
        obtain ⟨k, A2, n2, c2, hk, rfl, rfl, hn2, hO, hB⟩ := hrel
        obtain ⟨wb, rfl⟩ : ∃ u, u = wr := ⟨_, rfl⟩
        have HO := Lib.hid hO
        have HB := Lib.hid hB
        have HN2 := Lib.hid hn2
        clear hO hB
        have hk0 : (0 : Int) ≤ (k : Int) := Int.natCast_nonneg _
        by_cases hlt2 : k < N
        · have hk8 : (k : Int) < N := by omega
          have hn2b : n2 ≤ 72 := by have := thK_len (winF f s) i k; rw [hn2, List.length_append]; omega
          have hBa : Below wb.heap.size wb (wb.alloc (.cells #[.int .i64 i, .int .i64 k] 53)) := (Below.refl _ _).alloc (Nat.le_refl _) _
          have HCa := Lib.hid (HC.out i k hlt hlt2 _ (HB.out.trans (hBa.mono HB.out.size)))
          have hKa : Rs (wb.alloc (.cells #[.int .i64 i, .int .i64 k] 53)) wb.heap.size 53 pqc [((i : Int), (k : Int))] := by
            have := Blk.new wb 53 #[Value.int .i64 (i : Int), Value.int .i64 (k : Int)]
            simpa [Rs, pqc] using this
          have HBa := Lib.hid hBa
          have HKa := Lib.hid hKa
          clear hBa hKa hn2
          cases hf : winF f s i k
          · rw [hf] at HCa
            have hSt : Hid (thK (winF f s) i (k + 1) = thK (winF f s) i k) := thK_no hf
            clear hf
            go_wp2_with fail
            refine HCa.out.mono ?_
            rintro e w3 ⟨rfl, hb3⟩
            have hb3' := HBa.out.trans (hb3.mono HBa.out.size)
            have HO3 := Lib.hid (own_keep' HO.out hb3')
            have HB3 := Lib.hid (HB.out.trans (hb3'.mono HB.out.size))
            clear hb3 hb3' HCa HBa HKa HO HB
            go_wp2
            go_roundw
            case rel => exact ⟨k + 1, A2, n2, c2, by omega, by go_num, rfl, by rw [hSt.out]; exact HN2.out, by rw [hSt.out]; exact HO3.out, HB3.out⟩
            case measure => simp [intOf]; omega
          · rw [hf] at HCa
            have hSt : Hid (thK (winF f s) i (k + 1) = thK (winF f s) i k ++ [((i : Int), (k : Int))]) := thK_yes hf
            clear hf
            go_wp2_with fail
            refine HCa.out.mono ?_
            rintro e w3 ⟨rfl, hb3⟩
            have hb3' := HBa.out.trans (hb3.mono HBa.out.size)
            have HO3 := Lib.hid (own_keep' HO.out hb3')
            have HB3 := Lib.hid (HB.out.trans (hb3'.mono HB.out.size))
            have hK3 : Rs w3 wb.heap.size 53 pqc [((i : Int), (k : Int))] := Blk.keep HKa.out hb3
            have d0 : w3.cell? ⟨wb.heap.size, 0, none⟩ = some (.int .i64 i) := Rs.range hK3 0 _ (by simp [pqc])
            have d1 : w3.cell? ⟨wb.heap.size, 1, none⟩ = some (.int .i64 k) := by have := Rs.range hK3 1 (.int .i64 (k : Int)) (by simp [pqc]); simpa using this
            clear hb3 hb3' HCa HBa HKa HO HB hK3
            go_wp2_with (at_builtin; refine wpList_append_own _ rfl (.tmp 23) (.tmp 25) 54 rfl w.heap.size 53 i0 (.agg #[.int .i64 0, .int .i64 0]) 2 16 Tryd.underlying54 HI.out HZ0.out HZ1.out HZ2.out rfl (by decide) _ _ _ rfl (HO3.out.alloc _) ⟨w3.heap.size, 0, none⟩ 1 1 [.int .i64 i, .int .i64 k] rfl rfl ?c1 ?c2 ?c3 ?c4 ?c5 ?_)
            case c1 => exact cell_two_newP _ _ _ _
            case c2 => exact two_oneP _ _
            case c3 => unfold maxLen; omega
            case c4 => omega
            case c5 => have := HB3.out.size; simp; omega
            intro v' w4 hown' hgrow _
            have hown4 : w4.ownsRow w.heap.size 53 2 v' (n2 + 1) ((thI (winF f s) N i ++ thK (winF f s) i (k + 1)).flatMap pqc) := by
              rw [hSt.out, ← List.append_assoc, pqc_snoc]; simpa [pqc] using hown'
            have HB4 : Hid (Below w.heap.size w w4) := (HB3.out.alloc HB3.out.size _).grown hgrow (by have := HB3.out.size; simp; omega) (fun r e => (HO3.out.lt r e).1)
            have HN4 : Hid (n2 + 1 = (thI (winF f s) N i ++ thK (winF f s) i (k + 1)).length) := by
              show _ = _
              rw [hSt.out, ← List.append_assoc, List.length_append, ← HN2.out]; rfl
            obtain ⟨A8, c8, rfl⟩ : ∃ A8 c8, v' = .slice A8 (n2 + 1) c8 := by
              rcases hown4.2 with ⟨h1, h2⟩ | ⟨g, cap, cur, h1, -⟩
              · exact ⟨_, _, by rw [h1, h2]⟩
              · exact ⟨_, _, h1⟩
            have HO4 := Lib.hid hown4
            clear hown' hown4 hgrow d0 d1
            go_wp2
            go_roundw
            case rel => exact ⟨k + 1, A8, n2 + 1, c8, by omega, by go_num, rfl, HN4.out, HO4.out, HB4.out⟩
            case measure => simp [intOf]; omega
        · obtain rfl : k = N := by omega
          have HOx : Hid (n2 = (thI (winF f s) k (i + 1)).length ∧ wb.ownsRow w.heap.size 53 2 (.slice A2 n2 c2) n2 ((thI (winF f s) k (i + 1)).flatMap pqc)) := ⟨HN2.out, HO.out⟩
          clear hn2
          go_wp2
          go_roundw
          case rel => exact ⟨i + 1, A2, n2, c2, by omega, by go_num, rfl, HOx.out.1, HOx.out.2, HB.out⟩
          case measure => simp [intOf]; omega
    · obtain rfl : i = N := by omega
      have HOx : Hid (wa.ownsRow w.heap.size 53 2 (.slice A1 n1 c1) n1 ((thI (winF f s) i i).flatMap pqc)) := by
        have := HO.out.2
        rw [show thI (winF f s) i i ++ thK (winF f s) i 0 = thI (winF f s) i i from by simp [thK]] at this
        exact this
      go_wp2
      go_ret
      exact ⟨A1, c1, by (rw [← HN1.out]; first | done | rfl), by rw [← HN1.out]; exact HOx.out, HB.out⟩

set_option maxRecDepth 100000 in
set_option maxHeartbeats 4000000 in
theorem winnerOf_any (N : Nat) (hN8 : N ≤ 8) (f : Nat → Nat → Nat) (ps : List Pq) (hc : ∀ a b : Nat, cntP ps ((a : Int), (b : Int)) = f a b ∨ ¬ (a < N ∧ b < N)) (hlen : ps.length ≤ 6500) (B n : Nat) (D : DataW Unit) (ad : Nat → Addr) (w : World) (hO : OwnsP w B n D) (hH : Holds D ok2 kP (cntP ps)) (hE : EW 7 w ad) :
    Calls Tryd.prog 38 #[.int .i64 N, .map (some B)] w fun e w' => e = .returned (.tuple #[.int .i64 (winI (wnO f N)), erO ad (winE (wnO f N))]) ∧ Below w.heap.size w w' := by
  obtain ⟨W, hW⟩ : ∃ W, w.alloc (.cells #[.map (some B)] 47) = W := ⟨_, rfl⟩
  have hB : Below w.heap.size w W := by rw [← hW]; exact (Below.refl _ w).alloc (Nat.le_refl _) _
  have hK : W.cell? ⟨w.heap.size, 0, none⟩ = some (.map (some B)) := by rw [← hW]; exact (Blk.new w 47 #[Value.map (some B)]).cell 0
  have HB := Lib.hid hB
  have HK := Lib.hid hK
  have HKl := Lib.hid (cell_lt9 hK)
  have HO : Hid (∀ (W9 : World), Below W.heap.size W W9 → OwnsP W9 B n D) := fun W9 h9 => (hO.kept (grown_of_below hB) (by simp)).kept (grown_of_below h9) (by simp)
  have HH := Lib.hid hH
  have HE := Lib.hid hE
  have HCt := Lib.hid hc
  clear hB hK hO hH hE hc
  go_enter Tryd.func38, Tryd.ntmps38
  go_wp2_with fail
  clear hW
  go_loopw [9] (fun j wr => ∃ (i : Nat), i ≤ N ∧ j = .int .i64 i ∧ (∀ j, j < i → allW f j N = false) ∧ Below W.heap.size W wr) (fun j _ => N - (intOf j).toNat)
  case atStart => exact ⟨0, by omega, rfl, fun j h => absurd h (Nat.not_lt_zero _), Below.refl _ _⟩
  case round =>
    obtain ⟨i, hi, rfl, hal, hb2⟩ := hrel
    obtain ⟨wa, rfl⟩ : ∃ u, u = wr := ⟨_, rfl⟩
    have HB2 := Lib.hid hb2
    have HAl := Lib.hid hal
    clear hb2 hal
    have hi0 : (0 : Int) ≤ (i : Int) := Int.natCast_nonneg _
    by_cases hlt : i < N
    · have hi8 : (i : Int) < N := by omega
      have hBa : Below wa.heap.size wa (wa.alloc (.cells #[.int .i64 i] 2)) := (Below.refl _ _).alloc (Nat.le_refl _) _
      have hKa := (Blk.new wa 2 #[Value.int .i64 (i : Int)]).cell 0
      have hBb := HB2.out.trans (hBa.mono HB2.out.size)
      have HP := Lib.hid (pairsWin_any N hN8 f i wa.heap.size w.heap.size (wa.alloc (.cells #[.int .i64 i] 2)) (fun a b ha hb W9 h9 => winBy_any (fun a b : Nat => cntP ps ((a : Int), (b : Int))) i a b (by omega) (by omega) ps (fun a b => Or.inl rfl) hlen B n D wa.heap.size w.heap.size W9 (HO.out W9 (hBb.trans (h9.mono hBb.size))) HH.out ((h9.cell (p := ⟨wa.heap.size, 0, none⟩) (cell_lt9 hKa)).trans hKa) (((hBb.trans (h9.mono hBb.size)).cell (p := ⟨w.heap.size, 0, none⟩) HKl.out).trans HK.out) |> fun h => by
        have e1 := HCt.out a b
        have e2 := HCt.out b a
        have : winF (fun a b : Nat => cntP ps ((a : Int), (b : Int))) i a b = winF f i a b := by
          have e3 := e1.resolve_right (by omega)
          have e4 := e2.resolve_right (by omega)
          simp only [winF, beats, e3, e4]
        rw [this] at h
        exact h))
      have HBb := Lib.hid hBb
      have HKa := Lib.hid hKa
      have hKl := cell_lt9 hKa
      have HWi : Hid ((((thI (winF f i) N N).length : Nat) : Int) = (N : Int) - 1 ↔ allW f i N = true) := win_iff hlt
      have hl64 := thI_len64 (winF f i) hN8 (Nat.le_refl N)
      clear hBa hKa hBb
      have v1 : IntKind.i64.wrap ((N : Int) - 1) = (N : Int) - 1 := IntWalk.i64_in _ ⟨by omega, by omega⟩
      have v2 : wrap64 ((N : Int) - 1) = (N : Int) - 1 := IntWalk.wrap64_in _ ⟨by omega, by omega⟩
      cases hv : allW f i N
      · have hq : ¬ (((thI (winF f i) N N).length : Nat) : Int) = (N : Int) - 1 := fun h => by rw [HWi.out.1 h] at hv; cases hv
        have HAn : Hid (∀ j, j < i + 1 → allW f j N = false) := fun j hj => by
          by_cases e : j = i
          · subst e; exact hv
          · exact HAl.out j (by omega)
        obtain ⟨q, hqe⟩ : ∃ q, (thI (winF f i) N N).length = q := ⟨_, rfl⟩
        rw [hqe] at HP hq hl64
        have hne : ((q : Int) == (N : Int) - 1) = false := by rw [beq_eq_false_iff_ne]; exact hq
        clear hv HWi hqe
        go_wp2_with fail
        refine HP.out.mono ?_
        rintro e w3 ⟨A3, c3, rfl, -, hb3⟩
        have HB3 := Lib.hid (HBb.out.trans (hb3.mono HBb.out.size))
        clear hb3 HP
        go_wp2
        go_roundw
        case rel => exact ⟨i + 1, by omega, by go_num, HAn.out, HB3.out⟩
        case measure => simp [intOf]; omega
      · have hq : (((thI (winF f i) N N).length : Nat) : Int) = (N : Int) - 1 := HWi.out.2 hv
        have HV := Lib.hid (wnO_at hlt hv HAl.out)
        obtain ⟨q, hqe⟩ : ∃ q, (thI (winF f i) N N).length = q := ⟨_, rfl⟩
        rw [hqe] at HP hq hl64
        have hne : ((q : Int) == (N : Int) - 1) = true := by rw [beq_iff_eq]; exact hq
        clear hv HWi hqe
        go_wp2_with fail
        refine HP.out.mono ?_
        rintro e w3 ⟨A3, c3, rfl, -, hb3⟩
        have hk3 : w3.cell? ⟨wa.heap.size, 0, none⟩ = some (.int .i64 i) := (hb3.cell (p := ⟨wa.heap.size, 0, none⟩) hKl).trans HKa.out
        have HB3 := Lib.hid (HB.out.trans ((HBb.out.trans (hb3.mono HBb.out.size)).mono HB.out.size))
        clear hb3 HP
        go_wp2
        first | go_ret2 | skip
        exact ⟨by (rw [HV.out]; first | done | rfl), HB3.out⟩
    · obtain rfl : i = N := by omega
      have HB9 := Lib.hid (HB.out.trans (HB2.out.mono HB.out.size))
      have HV := Lib.hid (wnO_no HAl.out)
      have HE9 := HE.out.below HB9.out (Nat.le_refl _)
      have c4 : wa.cell? ⟨5, 0, none⟩ = some (.iface 137 (.pointer (some (ad 4)))) := HE9.cell 4 (by omega)
      clear HE9
      go_wp2_with fail
      go_region
      go_wp2
      go_ret2
      exact ⟨by (rw [HV.out]; first | done | rfl), by first | exact HB9.out | exact HB9.out.drew⟩

set_option maxRecDepth 100000 in
set_option maxHeartbeats 4000000 in
theorem implWinner_any (n : Int) (m : List (List Int)) (A : Option Addr) (c : Nat) (ad : Nat → Addr) (w : World) (hl : m.length ≤ 1048576) (hx : ∀ xs ∈ m, xs.length ≤ 1048576) (hr : RdN w w.heap.size icells A m) (hE : EW 7 w ad) :
    Calls Tryd.prog 19 #[.int .i64 n, .slice A m.length c] w fun e w' => e = .returned (.tuple #[.int .i64 (wnA n m), .int .i64 (wnC n m)]) ∧ Below w.heap.size w w' := by
  have HCm := Lib.hid (checkMarks_any n m A c ad w hl hx hr hE)
  have HR := Lib.hid hr
  have HE := Lib.hid hE
  clear hx hr hE
  go_enter Tryd.func19, Tryd.ntmps19
  go_wp2_with fail
  refine HCm.out.mono ?_
  rintro e w1 ⟨rfl, hb⟩
  have HB := Lib.hid hb
  clear HCm hb
  cases h0 : mkOk n m
  · have E := Lib.hid (wn_no h0)
    rw [chk_no, erO_some]
    clear h0
    go_wp2_with fail
    refine (codeOf_5 (HE.out.below HB.out (Nat.le_refl _))).mono ?_
    rintro e w4 ⟨rfl, rfl⟩
    go_wp2
    go_ret2
    exact ⟨by (rw [E.out.1, E.out.2]; first | done | rfl), HB.out⟩
  have E1 : Hid (∀ i : Nat, wnO (prF m m.length) n.toNat = some i → wnA n m = i ∧ wnC n m = 0) := fun i e => wn_some h0 e
  have E2 : Hid (wnO (prF m m.length) n.toNat = none → wnA n m = 0 ∧ wnC n m = 6) := fun e => wn_none h0 e
  obtain ⟨⟨hn1, hn8⟩, hm12, hrows⟩ := mkOk_iff.1 h0
  obtain ⟨N, hN⟩ : ∃ N : Nat, n.toNat = N := ⟨_, rfl⟩
  have hnN : n = (N : Int) := by omega
  rw [hN] at E1 E2
  subst hnN
  have HRow : ∀ xs ∈ m, xs.length = N := fun xs h => by have := (mkRow_iff.1 (hrows xs h)).1; omega
  have hN8 : N ≤ 8 := by omega
  have hps := prPs_len hN8 m m.length
  have HPs : Hid ((prPs N m m.length).length ≤ 6500) := by show _ ≤ _; omega
  have HPc : Hid (∀ a b : Nat, cntP (prPs N m m.length) ((a : Int), (b : Int)) = prF m m.length a b ∨ ¬ (a < N ∧ b < N)) := fun a b => by
    by_cases h : a < N ∧ b < N
    · exact Or.inl (prPs_cnt m h.1 h.2 _)
    · exact Or.inr h
  have HC := Lib.hid (preferences_any N hN8 m HRow hm12 A c w1 (HR.out.keep HB.out))
  rw [chk_yes, erO_none]
  clear h0 hrows hN HRow
  go_wp2_with fail
  refine HC.out.mono ?_
  rintro e w2 ⟨B, k, D, rfl, q1, q2, q3, q4, q5⟩
  have HB2 := Lib.hid (HB.out.trans (q5.mono HB.out.size))
  have HE2 := Lib.hid (HE.out.below HB2.out (Nat.le_refl _))
  have HC2 := Lib.hid (winnerOf_any N hN8 (prF m m.length) (prPs N m m.length) HPc.out HPs.out B k D ad w2 q3 q4 HE2.out)
  clear q1 q3 q4 q5 HC
  cases hv : wnO (prF m m.length) N with
  | none =>
    have HV := Lib.hid (E2.out hv)
    rw [hv] at HC2
    rw [show winI none = 0 from rfl, show winE none = some 4 from rfl, erO_some] at HC2
    clear hv
    go_wp2_with fail
    refine HC2.out.mono ?_
    rintro e w3 ⟨rfl, hb⟩
    have HB3 := Lib.hid (HB2.out.trans (hb.mono HB2.out.size))
    have HE3 := Lib.hid (HE.out.below HB3.out (Nat.le_refl _))
    clear hb HC2
    go_wp2_with fail
    refine (codeOf_4 (EW.less HE3.out (by omega))).mono ?_
    rintro e w4 ⟨rfl, rfl⟩
    go_wp2
    go_ret2
    exact ⟨by (rw [HV.out.1, HV.out.2]; first | done | rfl), HB3.out⟩
  | some i =>
    have HV := Lib.hid (E1.out i hv)
    rw [hv] at HC2
    rw [show winI (some i) = (i : Int) from rfl, show winE (some i) = none from rfl, erO_none] at HC2
    clear hv
    go_wp2_with fail
    refine HC2.out.mono ?_
    rintro e w3 ⟨rfl, hb⟩
    have HB3 := Lib.hid (HB2.out.trans (hb.mono HB2.out.size))
    clear hb HC2
    go_wp2_with fail
    refine (codeOf_nil _).mono ?_
    rintro e w4 ⟨rfl, rfl⟩
    go_wp2
    go_ret2
    exact ⟨by (rw [HV.out.1, HV.out.2]; first | done | rfl), HB3.out⟩
end Go.Proofs.YtglhjdnencpdiaaDoor
