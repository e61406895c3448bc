/-
  Pairs: the contracts of both AgreementBound. Condition: the sentinel errors lie as the row lists them.
-/
import Derived.Test.YtglhjdnencpdiaaDoorZs
import Derived.Test.YtglhjdnencpdiaaDoorZb
import Derived.Test.YtglhjdnencpdiaaDoorTv
import Derived.Test.YtglhjdnencpdiaaDoorTc
namespace Go.Proofs.YtglhjdnencpdiaaDoor
open Go.ChangeShapes Go.WideShapes Go.ChangeAt Go.RowKit Go.Deep

def hP (f : Nat → Nat → Nat) (p : Pq) : Int := max ((f p.1.toNat p.2.toNat : Nat) : Int) ((f p.2.toNat p.1.toNat : Nat) : Int)
theorem thK_asc (i : Nat) : ∀ k, k ≤ i + 1 → thK asc i k = []
  | 0, _ => rfl
  | k + 1, h => by
    rw [thK, thK_asc i k (by omega), asc, decide_eq_false (by omega : ¬ i < k)]; rfl
theorem suP_congr {g h : Pq → Int} {qs : List Pq} (e : ∀ p ∈ qs, g p = h p) : suP g qs = suP h qs := by
  unfold suP
  rw [List.map_congr_left e]
def abA (n : Int) (m : List (List Int)) : Int := if mkOk n m = true then suP (hP (prF m m.length)) (thI asc n.toNat n.toNat) else 0
theorem abA_yes {n : Int} {m : List (List Int)} (h : mkOk n m = true) : abA n m = suP (hP (prF m m.length)) (thI asc n.toNat n.toNat) := by simp [abA, h]
theorem abA_no {n : Int} {m : List (List Int)} (h : mkOk n m = false) : abA n m = 0 := by simp [abA, h]
theorem hP_b {m : List (List Int)} (h12 : m.length ≤ 12) (p : Pq) : 0 ≤ hP (prF m m.length) p ∧ hP (prF m m.length) p ≤ 12 := by
  have h1 := prTo_le m p.1.toNat p.2.toNat m.length
  have h2 := prTo_le m p.2.toNat p.1.toNat m.length
  unfold hP prF
  omega
theorem cell_lt9 {w : World} {g j : Nat} {v : Value} (h : w.cell? ⟨g, j, none⟩ = some v) : g < w.heap.size := by
  rcases Nat.lt_or_ge g w.heap.size with h' | h'
  · exact h'
  · simp [World.cell?, Array.getElem?_eq_none h'] at h

set_option maxRecDepth 100000 in
set_option maxHeartbeats 8000000 in
theorem specBound_any (n : Int) (m : List (List Int)) (A : Option Addr) (c : Nat) (w : World) (hl : m.length ≤ 1048576) (hx : ∀ xs ∈ m, xs.length ≤ 1048576) (hr : RdN w w.heap.size icells A m) :
    Calls Tryd.prog 16 #[.int .i64 n, .slice A m.length c] w fun e w' => e = .returned (.tuple #[.int .i64 (abA n m), .int .i64 (mkC n m)]) ∧ Below w.heap.size w w' := by
  have HC := Lib.hid (l07Ok_any n m A c w hl hx hr)
  have HR := Lib.hid hr
  clear hx hr
  go_enter Tryd.func16, Tryd.ntmps16
  go_wp2_with fail
  refine HC.out.mono ?_
  rintro e w1 ⟨rfl, rfl⟩
  clear HC
  cases h0 : mkOk n m
  · have E := Lib.hid (mkC_no h0)
    have E2 := Lib.hid (abA_no h0)
    clear h0
    go_wp2
    go_ret2
    exact ⟨by (rw [E.out.1, E2.out]; first | done | rfl), Below.refl _ _⟩
  have E := Lib.hid (mkC_yes h0)
  have E2 := Lib.hid (abA_yes h0)
  have HS := Lib.hid (l07Pairs_any n m h0 A c w HR.out)
  obtain ⟨⟨hn1, hn8⟩, hm12, -⟩ := mkOk_iff.1 h0
  obtain ⟨N, hN⟩ : ∃ N : Nat, n.toNat = N := ⟨_, rfl⟩
  have hnN : n = (N : Int) := by omega
  rw [hN] at E2 HS
  subst hnN
  have hN8 : N ≤ 8 := by omega
  have HPb : Hid (∀ p, 0 ≤ hP (prF m m.length) p ∧ hP (prF m m.length) p ≤ 12) := hP_b hm12
  obtain ⟨f, hf⟩ : ∃ f, prF m m.length = f := ⟨_, rfl⟩
  rw [hf] at E2 HS HPb
  clear h0 hN hf
  go_wp2_with fail
  refine HS.out.mono ?_
  rintro e w2 ⟨Aq, cq, hsq, rfl, hO, hb⟩
  have HO := Lib.hid hO
  have HB := Lib.hid hb
  clear hO hb HS
  go_wp2_with fail
  go_loopw [7, 8] (fun s j wr => ∃ (i : Nat), i ≤ N ∧ j = .int .i64 i ∧ s = .int .i64 (suP (hP f) (thI asc N i)) ∧ Below w2.heap.size w2 wr) (fun _ j _ => N - (intOf j).toNat)
  case atStart => exact ⟨0, by omega, rfl, rfl, Below.refl _ _⟩
  case round =>
    obtain ⟨i, hi, rfl, rfl, hb2⟩ := hrel
    obtain ⟨wa, rfl⟩ : ∃ u, u = wr := ⟨_, rfl⟩
    have HB2 := Lib.hid hb2
    clear hb2
    have hi0 : (0 : Int) ≤ (i : Int) := Int.natCast_nonneg _
    by_cases hlt : i < N
    · have hi8 : (i : Int) < N := by omega
      have hS0 : suP (hP f) (thI asc N i) = suP (hP f) (thI asc N i ++ thK asc i (i + 1)) := by rw [thK_asc i (i + 1) (by omega), List.append_nil]
      have HS0 := Lib.hid hS0
      clear hS0
      have hl64 := thI_len64 asc hN8 (Nat.le_of_lt hlt)
      have u0 : IntKind.i64.wrap ((i : Int) + 1) = (i : Int) + 1 := IntWalk.i64_in _ ⟨by omega, by omega⟩
      have u00 : wrap64 ((i : Int) + 1) = (i : Int) + 1 := IntWalk.wrap64_in _ ⟨by omega, by omega⟩
      go_wp2_with fail
      go_loopw [7, 9] (fun s j wr => ∃ (k : Nat), i < k ∧ k ≤ N ∧ j = .int .i64 k ∧ s = .int .i64 (suP (hP f) (thI asc N i ++ thK asc i k)) ∧ Below w2.heap.size w2 wr) (fun _ j _ => N - (intOf j).toNat)
      case atStart => exact ⟨i + 1, by omega, by omega, by go_num, by rw [HS0.out], HB2.out⟩
      case round =>
        clear HS0 HB2
        obtain ⟨k, hik, hk, rfl, rfl, hb2⟩ := hrel
        obtain ⟨wb, rfl⟩ : ∃ u, u = wr := ⟨_, rfl⟩
        have HB2 := Lib.hid hb2
        clear hb2
        have hk0 : (0 : Int) ≤ (k : Int) := Int.natCast_nonneg _
        by_cases hlt2 : k < N
        · have hk8 : (k : Int) < N := by omega
          have hN := HO.out.keep HB2.out
          obtain ⟨gA, g1, d1, rfl, f1, -, -, f2, -, -⟩ := hN.rowAt (mat_at f hlt) (by rw [mRow_len]; omega)
          obtain ⟨gB, g2, d2, eA, f3, -, -, f4, -, -⟩ := hN.rowAt (mat_at f hlt2) (by rw [mRow_len]; omega)
          obtain rfl : gA = gB := by simpa using eA
          have f5 := f2 k _ (mRow_at f i hlt2)
          have f6 := f4 i _ (mRow_at f k hlt)
          rw [mRow_len] at f1 f3
          have b1 := cell_lt9 f1
          have b2 := cell_lt9 f5
          have b3 := cell_lt9 f6
          have hSt : suP (hP f) (thI asc N i ++ thK asc i (k + 1)) = suP (hP f) (thI asc N i ++ thK asc i k) + max ((f i k : Nat) : Int) ((f k i : Nat) : Int) := by
            rw [thK_yes (by rw [asc, decide_eq_true hik]), ← List.append_assoc, suP_snoc]
            simp [hP]
          have hsb := suP_b (g := hP f) (M := 12) (qs := thI asc N i ++ thK asc i k) (fun q _ => HPb.out q)
          have hsl := thK_len asc i k
          rw [List.length_append] at hsb
          have hpb := HPb.out ((i : Int), (k : Int))
          have hpe : hP f ((i : Int), (k : Int)) = max ((f i k : Nat) : Int) ((f k i : Nat) : Int) := by simp [hP]
          rw [hpe] at hpb
          obtain ⟨x, hx⟩ : ∃ x, ((f i k : Nat) : Int) = x := ⟨_, rfl⟩
          obtain ⟨y, hy⟩ : ∃ y, ((f k i : Nat) : Int) = y := ⟨_, rfl⟩
          rw [hx] at f5 hSt hpb
          rw [hy] at f6 hSt hpb
          have HSt := Lib.hid hSt
          obtain ⟨s, hs⟩ : ∃ s, suP (hP f) (thI asc N i ++ thK asc i k) = s := ⟨_, rfl⟩
          rw [hs] at hsb HSt ⊢
          have u1 : IntKind.i64.wrap (s + max x y) = s + max x y := IntWalk.i64_in _ ⟨by omega, by omega⟩
          have u2 : wrap64 (s + max x y) = s + max x y := IntWalk.wrap64_in _ ⟨by omega, by omega⟩
          have F1 := Lib.hid f1
          have F3 := Lib.hid f3
          have F5 := Lib.hid f5
          have F6 := Lib.hid f6
          clear hN eA f2 f4 hSt hs hsb hpe hpb hx hy f1 f3 f5 f6 hsl
          go_wp2_with fail
          refine wp_region_held_drew (S := fun w' => Below wb.heap.size wb w') (by kernel_rfl) (Below.refl _ _).drew (fun hHeld => ?_)
          refine wpAnyH_take (i := 0) (v := .int .i64 s) rfl (by kernel_rfl) (by kernel_rfl) (by kernel_rfl) (fun _ _ _ h => h) (Or.inl ⟨by rfl, fun w' h => by go_simp⟩) (by assumption) ?_
          try simp only [Act.put, List.getElem_toArray, List.getElem_cons_zero, List.getElem_cons_succ, List.setIfInBounds_toArray, List.set_cons_zero, List.set_cons_succ]
          refine wpAnyH_take (i := 1) (v := .slice (some ⟨gA, 0, none⟩) N cq) rfl (by kernel_rfl) (by kernel_rfl) (by kernel_rfl) (fun _ _ _ h => h) (Or.inl ⟨by rfl, fun w' h => by go_simp⟩) (by assumption) ?_
          try simp only [Act.put, List.getElem_toArray, List.getElem_cons_zero, List.getElem_cons_succ, List.setIfInBounds_toArray, List.set_cons_zero, List.set_cons_succ]
          refine wpAnyH_take (i := 2) (v := .int .i64 i) rfl (by kernel_rfl) (by kernel_rfl) (by kernel_rfl) (fun _ _ _ h => h) (Or.inl ⟨by rfl, fun w' h => by go_simp⟩) (by assumption) ?_
          try simp only [Act.put, List.getElem_toArray, List.getElem_cons_zero, List.getElem_cons_succ, List.setIfInBounds_toArray, List.set_cons_zero, List.set_cons_succ]
          refine wpAnyH_take (i := 3) (v := .pointer (some ⟨gA, i, none⟩)) rfl (by kernel_rfl) (by kernel_rfl) (by kernel_rfl) (fun _ _ _ h => h) (Or.inl ⟨by rfl, fun w' h => by go_simp⟩) (by assumption) ?_
          try simp only [Act.put, List.getElem_toArray, List.getElem_cons_zero, List.getElem_cons_succ, List.setIfInBounds_toArray, List.set_cons_zero, List.set_cons_succ]
          refine wpAnyH_take (i := 4) (v := .slice (some ⟨g1, 0, none⟩) N d1) rfl (by kernel_rfl) (by kernel_rfl) (by kernel_rfl) (fun _ _ _ h => h) (Or.inl ⟨by rfl, fun w' h => by have q : w'.cell? ⟨gA, i, none⟩ = some (.slice (some ⟨g1, 0, none⟩) N d1) := (h.cell (p := ⟨gA, i, none⟩) b1).trans F1.out; go_simp⟩) (by assumption) ?_
          try simp only [Act.put, List.getElem_toArray, List.getElem_cons_zero, List.getElem_cons_succ, List.setIfInBounds_toArray, List.set_cons_zero, List.set_cons_succ]
          refine wpAnyH_take (i := 5) (v := .int .i64 k) rfl (by kernel_rfl) (by kernel_rfl) (by kernel_rfl) (fun _ _ _ h => h) (Or.inl ⟨by rfl, fun w' h => by go_simp⟩) (by assumption) ?_
          try simp only [Act.put, List.getElem_toArray, List.getElem_cons_zero, List.getElem_cons_succ, List.setIfInBounds_toArray, List.set_cons_zero, List.set_cons_succ]
          refine wpAnyH_take (i := 6) (v := .pointer (some ⟨g1, k, none⟩)) rfl (by kernel_rfl) (by kernel_rfl) (by kernel_rfl) (fun _ _ _ h => h) (Or.inl ⟨by rfl, fun w' h => by go_simp⟩) (by assumption) ?_
          try simp only [Act.put, List.getElem_toArray, List.getElem_cons_zero, List.getElem_cons_succ, List.setIfInBounds_toArray, List.set_cons_zero, List.set_cons_succ]
          refine wpAnyH_take (i := 7) (v := .int .i64 x) rfl (by kernel_rfl) (by kernel_rfl) (by kernel_rfl) (fun _ _ _ h => h) (Or.inl ⟨by rfl, fun w' h => by have q : w'.cell? ⟨g1, k, none⟩ = some (.int .i64 x) := (h.cell (p := ⟨g1, k, none⟩) b2).trans F5.out; go_simp⟩) (by assumption) ?_
          try simp only [Act.put, List.getElem_toArray, List.getElem_cons_zero, List.getElem_cons_succ, List.setIfInBounds_toArray, List.set_cons_zero, List.set_cons_succ]
          refine wpAnyH_take (i := 8) (v := .slice (some ⟨gA, 0, none⟩) N cq) rfl (by kernel_rfl) (by kernel_rfl) (by kernel_rfl) (fun _ _ _ h => h) (Or.inl ⟨by rfl, fun w' h => by go_simp⟩) (by assumption) ?_
          try simp only [Act.put, List.getElem_toArray, List.getElem_cons_zero, List.getElem_cons_succ, List.setIfInBounds_toArray, List.set_cons_zero, List.set_cons_succ]
          refine wpAnyH_take (i := 9) (v := .int .i64 k) rfl (by kernel_rfl) (by kernel_rfl) (by kernel_rfl) (fun _ _ _ h => h) (Or.inl ⟨by rfl, fun w' h => by go_simp⟩) (by assumption) ?_
          try simp only [Act.put, List.getElem_toArray, List.getElem_cons_zero, List.getElem_cons_succ, List.setIfInBounds_toArray, List.set_cons_zero, List.set_cons_succ]
          refine wpAnyH_take (i := 10) (v := .pointer (some ⟨gA, k, none⟩)) rfl (by kernel_rfl) (by kernel_rfl) (by kernel_rfl) (fun _ _ _ h => h) (Or.inl ⟨by rfl, fun w' h => by go_simp⟩) (by assumption) ?_
          try simp only [Act.put, List.getElem_toArray, List.getElem_cons_zero, List.getElem_cons_succ, List.setIfInBounds_toArray, List.set_cons_zero, List.set_cons_succ]
          refine wpAnyH_take (i := 11) (v := .slice (some ⟨g2, 0, none⟩) N d2) rfl (by kernel_rfl) (by kernel_rfl) (by kernel_rfl) (fun _ _ _ h => h) (Or.inl ⟨by rfl, fun w' h => by have q : w'.cell? ⟨gA, k, none⟩ = some (.slice (some ⟨g2, 0, none⟩) N d2) := (h.cell (p := ⟨gA, k, none⟩) b1).trans F3.out; go_simp⟩) (by assumption) ?_
          try simp only [Act.put, List.getElem_toArray, List.getElem_cons_zero, List.getElem_cons_succ, List.setIfInBounds_toArray, List.set_cons_zero, List.set_cons_succ]
          refine wpAnyH_take (i := 12) (v := .int .i64 i) rfl (by kernel_rfl) (by kernel_rfl) (by kernel_rfl) (fun _ _ _ h => h) (Or.inl ⟨by rfl, fun w' h => by go_simp⟩) (by assumption) ?_
          try simp only [Act.put, List.getElem_toArray, List.getElem_cons_zero, List.getElem_cons_succ, List.setIfInBounds_toArray, List.set_cons_zero, List.set_cons_succ]
          refine wpAnyH_take (i := 13) (v := .pointer (some ⟨g2, i, none⟩)) rfl (by kernel_rfl) (by kernel_rfl) (by kernel_rfl) (fun _ _ _ h => h) (Or.inl ⟨by rfl, fun w' h => by go_simp⟩) (by assumption) ?_
          try simp only [Act.put, List.getElem_toArray, List.getElem_cons_zero, List.getElem_cons_succ, List.setIfInBounds_toArray, List.set_cons_zero, List.set_cons_succ]
          refine wpAnyH_take (i := 14) (v := .int .i64 y) rfl (by kernel_rfl) (by kernel_rfl) (by kernel_rfl) (fun _ _ _ h => h) (Or.inl ⟨by rfl, fun w' h => by have q : w'.cell? ⟨g2, i, none⟩ = some (.int .i64 y) := (h.cell (p := ⟨g2, i, none⟩) b3).trans F6.out; go_simp⟩) (by assumption) ?_
          try simp only [Act.put, List.getElem_toArray, List.getElem_cons_zero, List.getElem_cons_succ, List.setIfInBounds_toArray, List.set_cons_zero, List.set_cons_succ]
          obtain ⟨D0, hD0⟩ : ∃ D0, wb.drew = D0 := ⟨_, rfl⟩
          rw [hD0] at hHeld ⊢
          clear hD0
          refine wpAnyH_ready (rs := [15]) (by kernel_rfl) (by simp) ?_
          refine AllReadyH.cons rfl (fun K hK => ?_) AllReadyH.nil
          refine if_wanted rfl ?_
          go_simp
          refine (l00Max_z x y _).mono ?_
          rintro e w5 ⟨rfl, rfl⟩
          dsimp only
          refine hK.out _ _ hHeld (fun hHeld => ?_)
          clear hK K
          try simp only [Act.put, List.getElem_toArray, List.getElem_cons_zero, List.getElem_cons_succ, List.setIfInBounds_toArray, List.set_cons_zero, List.set_cons_succ]
          refine wpAnyH_take (i := 16) (v := .int .i64 (s + max x y)) rfl (by kernel_rfl) (by kernel_rfl) (by kernel_rfl) (fun _ _ _ h => h) (Or.inl ⟨by rfl, fun w' h => by go_simp⟩) (by assumption) ?_
          try simp only [Act.put, List.getElem_toArray, List.getElem_cons_zero, List.getElem_cons_succ, List.setIfInBounds_toArray, List.set_cons_zero, List.set_cons_succ]
          refine wpAnyH_ready (rs := [17]) (by kernel_rfl) (by simp) ?_
          refine AllReadyH.cons rfl (fun K hK => ?_) AllReadyH.nil
          refine if_wanted rfl ?_
          refine wp_assign0 (v := .int .i64 (s + max x y)) rfl rfl ?_
          refine hK.out _ _ hHeld (fun hHeld => ?_)
          clear hK K
          try simp only [Act.put, List.getElem_toArray, List.getElem_cons_zero, List.getElem_cons_succ, List.setIfInBounds_toArray, List.set_cons_zero, List.set_cons_succ]
          refine wpAnyH_done (by kernel_rfl) ?_ _
          try simp only [Act.put, List.getElem_toArray, List.getElem_cons_zero, List.getElem_cons_succ, List.setIfInBounds_toArray, List.set_cons_zero, List.set_cons_succ]
          have hb := hHeld
          clear hHeld
          have HB3 := Lib.hid (HB2.out.trans (hb.mono HB2.out.size))
          clear hb
          go_wp2
          go_roundw
          case rel => exact ⟨k + 1, by omega, by omega, by go_num, by rw [HSt.out], HB3.out⟩
          case measure => simp [intOf]; omega
        · obtain rfl : k = N := by omega
          go_wp2
          go_roundw
          case rel => exact ⟨i + 1, by omega, by go_num, rfl, HB2.out⟩
          case measure => simp [intOf]; omega
    · obtain rfl : i = N := by omega
      have HB9 := Lib.hid (HB.out.trans (HB2.out.mono HB.out.size))
      go_wp2
      go_ret2
      exact ⟨by (rw [E.out.1, E2.out]; first | done | rfl), HB9.out⟩

set_option maxRecDepth 100000 in
set_option maxHeartbeats 4000000 in
theorem implBound_any (n : Int) (m : List (List Int)) (A : Option Addr) (c : Nat) (ad : Nat → Addr) (w : World) (hl : m.length ≤ 1048576) (hx : ∀ xs ∈ m, xs.length ≤ 1048576) (hr : RdN w w.heap.size icells A m) (hE : EW 7 w ad) :
    Calls Tryd.prog 17 #[.int .i64 n, .slice A m.length c] w fun e w' => e = .returned (.tuple #[.int .i64 (abA n m), .int .i64 (mkC n m)]) ∧ Below w.heap.size w w' := by
  have HCm := Lib.hid (checkMarks_any n m A c ad w hl hx hr hE)
  have HR := Lib.hid hr
  have HE := Lib.hid hE
  clear hx hr hE
  go_enter Tryd.func17, Tryd.ntmps17
  go_wp2_with fail
  refine HCm.out.mono ?_
  rintro e w1 ⟨rfl, hb⟩
  have HB := Lib.hid hb
  clear HCm hb
  cases h0 : mkOk n m
  · have E := Lib.hid (mkC_no h0)
    have E2 := Lib.hid (abA_no h0)
    rw [chk_no, erO_some]
    clear h0
    go_wp2_with fail
    refine (codeOf_5 (HE.out.below HB.out (Nat.le_refl _))).mono ?_
    rintro e w4 ⟨rfl, rfl⟩
    go_wp2
    go_ret2
    exact ⟨by (rw [E.out.1, E2.out]; first | done | rfl), HB.out⟩
  have E := Lib.hid (mkC_yes h0)
  have E2 := Lib.hid (abA_yes h0)
  obtain ⟨⟨hn1, hn8⟩, hm12, hrows⟩ := mkOk_iff.1 h0
  obtain ⟨N, hN⟩ : ∃ N : Nat, n.toNat = N := ⟨_, rfl⟩
  have hnN : n = (N : Int) := by omega
  rw [hN] at E2
  subst hnN
  have HRow : ∀ xs ∈ m, xs.length = N := fun xs h => by have := (mkRow_iff.1 (hrows xs h)).1; omega
  have hN8 : N ≤ 8 := by omega
  have hps := prPs_len hN8 m m.length
  have hps2 : (prPs N m m.length).length ≤ 6500 := by omega
  have HPs := Lib.hid hps2
  have HSe : Hid (suP (gP (prPs N m m.length)) (thI asc N N) = suP (hP (prF m m.length)) (thI asc N N)) := suP_congr fun p hp => by
    obtain ⟨a, b, ha, hb, rfl⟩ := thI_mem hp
    simp only [gP, hP, Int.toNat_natCast]
    rw [prPs_cnt m ha hb, prPs_cnt m hb ha]; rfl
  have HGb : Hid (∀ p ∈ thI asc N N, 0 ≤ gP (prPs N m m.length) p ∧ gP (prPs N m m.length) p ≤ 6500) := fun p _ => by
    have h1 := cntP_le (prPs N m m.length) p
    have h2 := cntP_le (prPs N m m.length) (p.2, p.1)
    unfold gP
    omega
  have HAs := Lib.hid (pairsAsc_any N hN8 w1 (fun i k _ _ W _ => isAscending_any i k W))
  have HPr : Hid (∀ (W : World), Below w1.heap.size w1 W → Calls Tryd.prog 29 #[.slice A m.length c, .int .i64 N] W fun e w' => ∃ B n D, e = .returned (.map (some B)) ∧ W.heap.size ≤ B ∧ n ≤ 6500 ∧ OwnsP w' B n D ∧ Holds D ok2 kP (cntP (prPs N m m.length)) ∧ Below W.heap.size W w') := fun W hW => preferences_any N hN8 m HRow hm12 A c W ((HR.out.keep HB.out).keep hW)
  rw [chk_yes, erO_none]
  have hl64 := thI_len64 asc hN8 (Nat.le_refl N)
  have HL64 := Lib.hid hl64
  clear h0 hrows hN HRow hps hps2 hl64
  go_wp2_with fail
  refine HAs.out.mono ?_
  rintro e w2 ⟨Aq, cq, rfl, hOq, hb2⟩
  have HP2 := Lib.hid (HPr.out w2 hb2)
  have HOq := Lib.hid hOq
  have HB2 := Lib.hid (HB.out.trans (hb2.mono HB.out.size))
  clear hOq hb2 HPr HAs
  go_wp2_with fail
  refine HP2.out.mono ?_
  rintro e w3 ⟨B, k, D, rfl, q1, q2, q3, q4, q5⟩
  have HO3 := Lib.hid (own_keep' HOq.out q5)
  have HB3 := Lib.hid (HB2.out.trans (q5.mono HB2.out.size))
  have HC := Lib.hid (sumForP_any (gP (prPs N m m.length)) 6500 (by omega) (thI asc N N) (by have := HL64.out; omega) HGb.out Aq cq w3 (own_rd2 pqc_length HO3.out) B (fun p hp W hW => by
    obtain ⟨a, b, ha, hb, rfl⟩ := thI_mem hp
    exact greaterOf_any a b (by omega) (by omega) (prPs N m m.length) B k D W (q3.kept (grown_of_below hW) (by simp)) q4 HPs.out))
  rw [HSe.out] at HC
  clear q1 q3 q4 q5 HP2
  go_wp2_with fail
  refine HC.out.mono ?_
  rintro e w5 ⟨rfl, hb5⟩
  have HB5 := Lib.hid (HB3.out.trans (hb5.mono HB3.out.size))
  clear hb5 HC
  go_wp2
  go_ret2
  exact ⟨by (rw [E.out.1, E2.out]; first | done | rfl), HB5.out⟩
end Go.Proofs.YtglhjdnencpdiaaDoor
