/-
  Sums of ranks: the model's contracts, of l07Sums, RankSums, RanksOf. Condition: valid marks for the inner one.
-/
import Derived.Test.YtlagnocglkoomaaDoorTr1
namespace Go.Proofs.YtlagnocglkoomaaDoor
open Go.ChangeShapes Go.WideShapes Go.ChangeAt Go.RowKit Go.Deep

theorem own_of_rsI {w : World} {g b : Nat} {xs : List Int} (h : Rs w g 2 icells xs) (hb : b ≤ g) (hm : xs.length ≤ maxLen) : w.ownsRow b 2 1 (.slice (some ⟨g, 0, none⟩) xs.length xs.length) xs.length (xs.flatMap icells) :=
  own_base (own_of_rs icells_length h hm) hb
theorem rs_setI {w : World} {g : Nat} {X : List Int} (h : Rs w g 2 icells X) {k : Nat} (hk : k < X.length) (x : Int) : Rs (w.setCell ⟨g, k, none⟩ (.int .i64 x)) g 2 icells (X.set k x) := by
  have := Rs.set_ icells_length h hk x
  simpa [icells, World.setCells] using this
theorem rkLs_all_at {m : List (List Int)} {t : Nat} {xs : List Int} (h : m[t]? = some xs) : (rkLs m m.length)[t]? = some (rkL xs) := by
  rw [rkLs, List.take_of_length_le (Nat.le_refl _), List.getElem?_map, h]; rfl

set_option maxRecDepth 100000 in
set_option maxHeartbeats 8000000 in
theorem l07Sums_any (n : Int) (m : List (List Int)) (hv : mkOk n m = true) (A : Option Addr) (c : Nat) (w : World) (hr : RdN w w.heap.size icells A m) :
    Calls Tryd.prog 24 #[.int .i64 n, .slice A m.length c] w fun e w' => e = .returned (.slice (some ⟨w.heap.size, 0, none⟩) n.toNat n.toNat) ∧ Rs w' w.heap.size 2 icells (rsL n.toNat m m.length) ∧ Below w.heap.size w w' := by
  obtain ⟨i0, hi, hz0, hz1, hz2⟩ := info_parts Tryd.info64
  obtain ⟨⟨hn1, hn8⟩, hm12, hrows⟩ := mkOk_iff.1 hv
  have HRow : Hid (∀ xs ∈ m, (xs.length : Int) = n) := fun xs h => (mkRow_iff.1 (hrows xs h)).1
  have HRb : Hid (∀ (i t : Nat), t ≤ m.length → 0 ≤ rsTo m i t ∧ rsTo m i t ≤ 17 * (t : Int)) := fun i t => rsTo_b (fun xs h => by have := HRow.out xs h; omega) i t
  obtain ⟨N, hN⟩ : ∃ N : Nat, n.toNat = N := ⟨_, rfl⟩
  have hnN : n = (N : Int) := by omega
  subst hnN
  have hNe : ((N : Int)).toNat = N := by omega
  rw [hNe]
  have HR := Lib.hid hr
  have HVd := Lib.hid hv
  have hN8 : N ≤ 8 := by omega
  clear hr hrows hN hNe hv
  go_enter Tryd.func24, Tryd.ntmps24
  go_wp2_with (refine wpList_make_full _ rfl (.tmp 9) (.tmp 9) 30 rfl w.heap.size 2 i0 _ 1 Tryd.underlying30 hi hz0 hz1 .i64 .i64 _ _ N rfl rfl rfl rfl (by rw [hz2]; omega) (by unfold maxLen; omega) (Nat.le_refl _) ?_; intro w1 hown hg)
  have hR0 : Rs w1 w.heap.size 2 icells (List.replicate N 0) := by
    have := blk_of_make hown
    rw [made_rows icells_length 0 (Value.int IntKind.i64 0).cells rfl (by omega)] at this
    exact this
  have hB0 : Below w.heap.size w w1 := (Below.refl _ w).grown hg (Nat.le_refl _) (fun _ h => by cases h)
  rw [← rsL_zero N m] at hR0
  have HR0 := Lib.hid hR0
  have HB0 := Lib.hid hB0
  have HC := Lib.hid (l07Ranks_any (N : Int) m HVd.out A c w1 (HR.out.keep hB0))
  clear hR0 hB0 hown hg hi hz0 hz1 hz2
  have HLr : Hid ((rkLs m m.length).length = m.length) := rkLs_len (Nat.le_refl _)
  go_wp2_with fail
  refine HC.out.mono ?_
  rintro e w2 ⟨Aq, cq, hsq, rfl, hO, hb⟩
  have HQ : Hid (RdN w2 w2.heap.size icells Aq (rkLs m m.length)) := hO.rd icells_length
  have HR2 : Hid (Rs w2 w.heap.size 2 icells (rsL N m 0)) := Blk.keep HR0.out hb
  have HB2 : Hid (Below w.heap.size w w2) := HB0.out.trans (hb.mono HB0.out.size)
  have HQ0 : Hid (Below w2.heap.size w2 w2) := Below.refl _ _
  -- the ranks lie in blocks of their own: not in that of the sums
  have HQa : Hid (∀ (w' : World), Only (fun k => k = w.heap.size) w2 w' → OwnN w' w1.heap.size 30 2 1 icells Aq cq hsq (rkLs m m.length)) := fun w' ho => by
    have hlt := HR0.out.lt
    exact hO.only ho (fun k e => by subst e; exact hlt)
  clear hO hb HC HR0 HB0 HQ
  rw [HLr.out]
  go_wp2_with fail
  go_loopw [7] (fun i wr => ∃ (t : Nat), t ≤ m.length ∧ i = .int .i64 t ∧ Rs wr w.heap.size 2 icells (rsL N m t) ∧ Only (fun k => k = w.heap.size) w2 wr ∧ Below w.heap.size w wr)
    (fun i _ => m.length - (intOf i).toNat)
  case atStart => exact ⟨0, by omega, rfl, HR2.out, Only.refl _ _, HB2.out⟩
  case round =>
    clear HR2
    obtain ⟨t, ht, rfl, hS, hO, hB⟩ := hrel
    obtain ⟨wa, rfl⟩ : ∃ u, u = wr := ⟨_, rfl⟩
    have HS := Lib.hid hS
    have HO := Lib.hid hO
    have HB := Lib.hid hB
    clear hS hO hB
    have ht0 : (0 : Int) ≤ (t : Int) := Int.natCast_nonneg _
    by_cases hlt : t < m.length
    · obtain ⟨xs, hxs⟩ : ∃ x, m[t]? = some x := ⟨_, List.getElem?_eq_getElem hlt⟩
      have ht8 : (t : Int) < m.length := by omega
      have hxn := HRow.out xs (List.mem_of_getElem? hxs)
      have HXs := Lib.hid hxs
      have HXn : Hid (xs.length = N) := by show _ = _; omega
      have HS0 : Hid (Rs wa w.heap.size 2 icells (rsM N m t 0)) := by show Rs _ _ _ _ _; rw [rsM_zero]; exact HS.out
      clear hxs hxn
      go_wp2_with fail
      go_loopw [8] (fun j wr2 => ∃ (q : Nat), q ≤ N ∧ j = .int .i64 q ∧ Rs wr2 w.heap.size 2 icells (rsM N m t q) ∧ Only (fun k => k = w.heap.size) w2 wr2 ∧ Below w.heap.size w wr2)
        (fun j _ => N - (intOf j).toNat)
      case atStart => exact ⟨0, by omega, rfl, HS0.out, HO.out, HB.out⟩
      case round =>
        clear HS0 HS HO HB
        obtain ⟨q, hq, rfl, hS, hO, hB⟩ := hrel
        obtain ⟨wb, rfl⟩ : ∃ u, u = wr := ⟨_, rfl⟩
        have HS := Lib.hid hS
        have HO := Lib.hid hO
        have HB := Lib.hid hB
        clear hS hO hB
        have hq0 : (0 : Int) ≤ (q : Int) := Int.natCast_nonneg _
        by_cases hlt2 : q < N
        · have hq8 : (q : Int) < N := by omega
          obtain ⟨x, hx⟩ : ∃ x, xs[q]? = some x := ⟨_, List.getElem?_eq_getElem (by rw [HXn.out]; exact hlt2)⟩
          have HSu := Lib.hid (rsTo_succ HXs.out hx)
          have hat := rkL_at hx
          have hrb := rkTo_b xs x xs.length
          have hsb := HRb.out q t (by omega)
          obtain ⟨b, o, a, c', rfl, hb, hc, hrd⟩ := ((HQa.out _ HO.out).rd icells_length).at_ (rkLs_all_at HXs.out)
          obtain ⟨b3, o3, rfl, hbl, hrow⟩ := hrd.at_ icells_length hat
          have e1 := rowI hrow
          have e2 : wb.cell? ⟨w.heap.size, q, none⟩ = some (.int .i64 (rsTo m q t)) := by
            have h9 : (rsM N m t q)[q]? = some (rsTo m q t) := by rw [rsM_at hlt2, if_neg (by omega)]
            have := rowI (range_row icells_length (Rs.range HS.out) h9)
            simpa using this
          have e3 := Blk.frozen HS.out q
          have hrl : (rkL xs).length = N := by rw [rkL_len, HXn.out]
          have hxl := HXn.out
          obtain ⟨s, hs⟩ : ∃ s, rsTo m q t = s := ⟨_, rfl⟩
          obtain ⟨r, hr⟩ : ∃ r, rkTo xs x xs.length = r := ⟨_, rfl⟩
          rw [hr] at e1 hrb HSu
          rw [hs] at e2 hsb HSu
          rw [hrl] at hc
          have u1 : IntKind.i64.wrap (s + r) = s + r := IntWalk.i64_in _ ⟨by omega, by omega⟩
          have u2 : wrap64 (s + r) = s + r := IntWalk.wrap64_in _ ⟨by omega, by omega⟩
          have HNx : Hid (Rs (wb.setCell ⟨w.heap.size, q, none⟩ (.int .i64 (s + r))) w.heap.size 2 icells (rsM N m t (q + 1))) := by
            show Rs _ _ _ _ _
            rw [← rsM_step hlt2, HSu.out]
            exact rs_setI HS.out (by rw [rsM_len]; exact hlt2) _
          have HNo : Hid (Only (fun k => k = w.heap.size) w2 (wb.setCell ⟨w.heap.size, q, none⟩ (.int .i64 (s + r)))) := HO.out.trans (only_set _ _ _ _)
          have HNb : Hid (Below w.heap.size w (wb.setCell ⟨w.heap.size, q, none⟩ (.int .i64 (s + r)))) := HB.out.setCell (p := ⟨w.heap.size, q, none⟩) (Nat.le_refl _) _
          clear hx hat hrow hrd hs hr hrl hxl hrb hsb
          go_wp2_with fail
          go_region
          go_wp2
          go_roundw
          case rel => exact ⟨q + 1, by omega, by go_num, by first | exact HNx.out | exact HNx.out.drew | (have := HNx.out; simpa using this), by first | exact HNo.out | (have := HNo.out; exact ⟨this.os, this.tape, this.output, this.size, this.block⟩), by first | exact HNb.out | exact HNb.out.drew⟩
          case measure => simp [intOf]; omega
        · obtain rfl : q = N := by omega
          have HSx : Hid (Rs wb w.heap.size 2 icells (rsL q m (t + 1))) := by show Rs _ _ _ _ _; rw [← rsM_all]; exact HS.out
          go_wp2
          go_roundw
          case rel => exact ⟨t + 1, by omega, by go_num, HSx.out, HO.out, HB.out⟩
          case measure => simp [intOf]; omega
    · obtain rfl : t = m.length := by omega
      go_wp2
      go_ret
      exact ⟨rfl, HS.out, HB.out⟩
theorem nil_own8 (w : World) (b : Nat) : w.ownsRow b 2 1 (.slice none 0 0) ([] : List Int).length (([] : List Int).flatMap icells) := ⟨rfl, .inl ⟨rfl, rfl⟩⟩
set_option maxRecDepth 100000 in
set_option maxHeartbeats 2000000 in
theorem specRankSums_any (n : Int) (m : List (List Int)) (A : Option Addr) (c : Nat) (w : World) (hl : m.length ≤ 1048576) (hx : ∀ xs ∈ m, xs.length ≤ 1048576) (hr : RdN w w.heap.size icells A m) :
    Calls Tryd.prog 9 #[.int .i64 n, .slice A m.length c] w fun e w' => ∃ v, e = .returned (.tuple #[v, .int .i64 (mkC n m)]) ∧ w'.ownsRow w.heap.size 2 1 v (rsA n m).length ((rsA n m).flatMap icells) ∧ Below w.heap.size w w' := by
  have HC := Lib.hid (l07Ok_any n m A c w hl hx hr)
  have HR := Lib.hid hr
  clear hx hr
  go_enter Tryd.func9, Tryd.ntmps9
  go_wp2_with fail
  refine HC.out.mono ?_
  rintro e w1 ⟨rfl, rfl⟩
  clear HC
  cases h0 : mkOk n m
  · have E := Lib.hid (mkC_no h0)
    clear h0
    go_wp2
    go_ret2
    refine ⟨_, by (rw [E.out.1]; first | done | rfl), ?_, (Below.refl _ _).alloc (Nat.le_refl _) _⟩
    rw [E.out.2.1]
    exact empty_ownI _ _ (Nat.le_refl _)
  have E := Lib.hid (mkC_yes h0)
  have HS := Lib.hid (l07Sums_any n m h0 A c w HR.out)
  have hn : (n.toNat : Int) = n := by have := (mkOk_iff.1 h0).1; omega
  have hn8 : n.toNat ≤ 8 := by have := (mkOk_iff.1 h0).1; omega
  have HN := Lib.hid hn
  clear h0 hn
  go_wp2_with fail
  refine HS.out.mono ?_
  rintro e w2 ⟨rfl, hS, hb⟩
  have HL := Lib.hid (rsL_len n.toNat m m.length)
  have HO : Hid (w2.ownsRow w.heap.size 2 1 (.slice (some ⟨w.heap.size, 0, none⟩) n.toNat n.toNat) (rsL n.toNat m m.length).length ((rsL n.toNat m m.length).flatMap icells)) := by
    have := own_of_rsI hS (Nat.le_refl _) (by rw [rsL_len]; unfold maxLen; omega)
    rw [rsL_len] at this ⊢
    exact this
  have HB := Lib.hid hb
  clear hS hb HS
  obtain ⟨N, hN⟩ : ∃ N, n.toNat = N := ⟨_, rfl⟩
  rw [hN] at HO HN HL E ⊢
  clear hN
  go_wp2
  go_ret2
  refine ⟨_, by (rw [E.out.1]; first | done | rfl), ?_, HB.out⟩
  rw [E.out.2.1]
  exact HO.out
set_option maxRecDepth 100000 in
set_option maxHeartbeats 2000000 in
theorem specRanksOf_any (n : Int) (m : List (List Int)) (A : Option Addr) (c : Nat) (w : World) (hl : m.length ≤ 1048576) (hx : ∀ xs ∈ m, xs.length ≤ 1048576) (hr : RdN w w.heap.size icells A m) :
    Calls Tryd.prog 7 #[.int .i64 n, .slice A m.length c] w fun e w' => ∃ A' c', e = .returned (.tuple #[.slice A' (rkA n m).length c', .int .i64 (mkC n m)]) ∧ RdN w' w'.heap.size icells A' (rkA n m) ∧ Below w.heap.size w w' := by
  have HC := Lib.hid (l07Ok_any n m A c w hl hx hr)
  have HR := Lib.hid hr
  clear hx hr
  go_enter Tryd.func7, Tryd.ntmps7
  go_wp2_with fail
  refine HC.out.mono ?_
  rintro e w1 ⟨rfl, rfl⟩
  clear HC
  cases h0 : mkOk n m
  · have E := Lib.hid (mkC_no h0)
    clear h0
    go_wp2
    go_ret2
    refine ⟨_, _, by (rw [E.out.1, E.out.2.2]; first | done | rfl), ?_, (Below.refl _ _).alloc (Nat.le_refl _) _⟩
    rw [E.out.2.2]
    exact (empty_ownH w w.heap.size (Nat.le_refl _)).rd icells_length
  have E := Lib.hid (mkC_yes h0)
  have HS := Lib.hid (l07Ranks_any n m h0 A c w HR.out)
  have HLn : Hid ((rkLs m m.length).length = m.length) := rkLs_len (Nat.le_refl _)
  clear h0
  rw [HLn.out] at HS
  go_wp2_with fail
  refine HS.out.mono ?_
  rintro e w2 ⟨Aq, cq, hsq, rfl, hO, hb⟩
  have HO := Lib.hid hO
  have HB := Lib.hid hb
  clear hO hb HS
  go_wp2
  go_ret2
  refine ⟨_, _, by (rw [E.out.1, E.out.2.2, HLn.out]; first | done | rfl), ?_, HB.out⟩
  rw [E.out.2.2]
  exact HO.out.rd icells_length
end Go.Proofs.YtlagnocglkoomaaDoor
