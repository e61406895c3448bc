/-
  Ranks: the program's contracts, of rankOf, sumFor, rankSums, RankSums, RanksOf. Condition: the sentinel errors lie as the row lists them (the outer ones); valid marks for the inner ones.
-/
import Derived.Test.YtlagnocglkoomaaDoorTr2
import Derived.Test.YtlagnocglkoomaaDoorTc
namespace Go.Proofs.YtlagnocglkoomaaDoor
open Go.ChangeShapes Go.WideShapes Go.ChangeAt Go.RowKit Go.Deep

set_option maxRecDepth 100000 in
set_option maxHeartbeats 2000000 in
theorem rankOf_any (xs : List Int) (i : Nat) (x : Int) (hx : xs[i]? = some x) (h8 : xs.length ≤ 8) (A : Option Addr) (c : Nat) (w : World) (hr : Rd w w.heap.size icells A xs) :
    Calls Tryd.prog 43 #[.slice A xs.length c, .int .i64 i] w fun e w' => e = .returned (.int .i64 (rkTo xs x xs.length)) ∧ w = w' := by
  have HR := Lib.hid hr
  have hil := (List.getElem?_eq_some_iff.1 hx).1
  have hi0 : (0 : Int) ≤ (i : Int) := Int.natCast_nonneg _
  have hi8 : (i : Int) < xs.length := by omega
  obtain ⟨b4, o4, rfl, hbl4, hrow4⟩ := hr.at_ icells_length hx
  have e2 := rowI hrow4
  clear hr hx hrow4
  go_enter Tryd.func43, Tryd.ntmps43
  go_wp2_with fail
  go_loop [5, 10] (fun r j => ∃ (p : Nat), p ≤ xs.length ∧ j = .int .i64 p ∧ r = .int .i64 (rkTo xs x p)) (fun _ j => xs.length - (intOf j).toNat)
  case atStart => exact ⟨0, by omega, rfl, rfl⟩
  case round =>
    obtain ⟨p, hp, rfl, rfl⟩ := hrel
    have hp0 : (0 : Int) ≤ (p : Int) := Int.natCast_nonneg _
    by_cases hlt3 : p < xs.length
    · obtain ⟨y, hy⟩ : ∃ y, xs[p]? = some y := ⟨_, List.getElem?_eq_getElem hlt3⟩
      have hpx : (p : Int) < xs.length := by omega
      obtain ⟨b3, o3, eA, hbl, hrow⟩ := HR.out.at_ icells_length hy
      obtain ⟨rfl, rfl⟩ : b4 = b3 ∧ o4 = o3 := by simpa using eA
      have e1 := rowI hrow
      have HS3 : Hid (rkTo xs x (p + 1) = rkTo xs x p + rkP x y) := rkTo_succ hy
      have hrb := rkTo_b xs x p
      obtain ⟨r, hrr⟩ : ∃ r, rkTo xs x p = r := ⟨_, rfl⟩
      rw [hrr] at HS3 hrb ⊢
      have u1 : IntKind.i64.wrap (r + 2) = r + 2 := IntWalk.i64_in _ ⟨by omega, by omega⟩
      have u2 : wrap64 (r + 2) = r + 2 := IntWalk.wrap64_in _ ⟨by omega, by omega⟩
      have u3 : IntKind.i64.wrap (r + 1) = r + 1 := IntWalk.i64_in _ ⟨by omega, by omega⟩
      have u4 : wrap64 (r + 1) = r + 1 := IntWalk.wrap64_in _ ⟨by omega, by omega⟩
      clear hy hrow eA hrr hrb
      rcases Int.lt_trichotomy x y with hxy | hxy | hxy
      · have he : (y == x) = false := by rw [beq_eq_false_iff_ne]; omega
        have hP : Hid (rkP x y = 2) := by show _ = _; rw [rkP, if_pos hxy]
        go_wp2
        go_round
        case rel => exact ⟨p + 1, by omega, by go_num, by rw [HS3.out, hP.out]⟩
        case measure => simp [intOf]; omega
      · have he : (y == x) = true := by rw [beq_iff_eq]; omega
        have hxy' : ¬ x < y := by omega
        have hP : Hid (rkP x y = 1) := by show _ = _; rw [rkP, if_neg hxy', if_pos hxy.symm]
        clear hxy
        go_wp2
        go_round
        case rel => exact ⟨p + 1, by omega, by go_num, by rw [HS3.out, hP.out]⟩
        case measure => simp [intOf]; omega
      · have he : (y == x) = false := by rw [beq_eq_false_iff_ne]; omega
        have hxy' : ¬ x < y := by omega
        have hP : Hid (rkP x y = 0) := by show _ = _; rw [rkP, if_neg hxy', if_neg (by omega)]
        clear hxy
        go_wp2
        go_round
        case rel => exact ⟨p + 1, by omega, by go_num, by rw [HS3.out, hP.out, Int.add_zero]⟩
        case measure => simp [intOf]; omega
    · obtain rfl : p = xs.length := by omega
      go_wp2
      go_ret
      exact ⟨rfl, rfl⟩
theorem rankBy_any (xs : List Int) (i : Nat) (x : Int) (hx : xs[i]? = some x) (h8 : xs.length ≤ 8) (A : Option Addr) (c D : Nat) (w : World) (hr : Rd w w.heap.size icells A xs) (hd : w.cell? ⟨D, 0, none⟩ = some (.int .i64 i)) :
    Calls Tryd.prog 42 #[.slice A xs.length c, .pointer (some ⟨D, 0, none⟩)] w fun e w' => e = .returned (.int .i64 (rkTo xs x xs.length)) ∧ w = w' := by
  have HC := Lib.hid (rankOf_any xs i x hx h8 A c w hr)
  clear hr hx
  go_enter Tryd.func42, Tryd.ntmps42
  go_wp2_with fail
  refine HC.out.mono ?_
  rintro e w1 ⟨rfl, rfl⟩
  go_wp2
  go_ret
  exact ⟨rfl, rfl⟩
set_option maxRecDepth 100000 in
set_option maxHeartbeats 2000000 in
theorem sumForR_any (N : Nat) (m : List (List Int)) (hm : ∀ xs ∈ m, xs.length = N) (hN : N ≤ 8) (h12 : m.length ≤ 12) (i : Nat) (hi : i < N) (D : Nat) (A : Option Addr) (c : Nat) (w : World) (hr : RdN w w.heap.size icells A m) (hd : w.cell? ⟨D, 0, none⟩ = some (.int .i64 i)) :
    Calls Tryd.prog 44 #[.slice A m.length c, .func (.func 42) #[] #[.pointer (some ⟨D, 0, none⟩)]] w fun e w' => e = .returned (.int .i64 (rsTo m i m.length)) ∧ w = w' := by
  have HR := Lib.hid hr
  have HM := Lib.hid hm
  have HD := Lib.hid hd
  have HRb : Hid (∀ (t : Nat), t ≤ m.length → 0 ≤ rsTo m i t ∧ rsTo m i t ≤ 17 * (t : Int)) := fun t => rsTo_b (fun xs h => by have := hm xs h; omega) i t
  clear hr hm hd
  go_enter Tryd.func44, Tryd.ntmps44
  go_wp2_with fail
  go_loop [5, 10] (fun s j => ∃ (t : Nat), t ≤ m.length ∧ j = .int .i64 t ∧ s = .int .i64 (rsTo m i t)) (fun _ j => m.length - (intOf j).toNat)
  case atStart => exact ⟨0, by omega, rfl, rfl⟩
  case round =>
    obtain ⟨t, ht, rfl, rfl⟩ := hrel
    have ht0 : (0 : Int) ≤ (t : Int) := Int.natCast_nonneg _
    by_cases hlt : t < m.length
    · obtain ⟨xs, hxs⟩ : ∃ x, m[t]? = some x := ⟨_, List.getElem?_eq_getElem hlt⟩
      have ht8 : (t : Int) < m.length := by omega
      have hxn := HM.out xs (List.mem_of_getElem? hxs)
      obtain ⟨x, hx⟩ : ∃ x, xs[i]? = some x := ⟨_, List.getElem?_eq_getElem (by omega)⟩
      obtain ⟨b, o, a, c', rfl, hb, hc, hrd⟩ := HR.out.at_ hxs
      have HSu := Lib.hid (rsTo_succ hxs hx)
      have hrb := rkTo_b xs x xs.length
      have hsb := HRb.out t (by omega)
      have HC := Lib.hid (rankBy_any xs i x hx (by omega) a c' D w hrd HD.out)
      obtain ⟨s, hs⟩ : ∃ s, rsTo m i t = s := ⟨_, rfl⟩
      obtain ⟨r, hr⟩ : ∃ r, rkTo xs x xs.length = r := ⟨_, rfl⟩
      rw [hr] at hrb HSu HC
      rw [hs] at hsb HSu ⊢
      have u1 : IntKind.i64.wrap (s + r) = s + r := IntWalk.i64_in _ ⟨by omega, by omega⟩
      have u2 : wrap64 (s + r) = s + r := IntWalk.wrap64_in _ ⟨by omega, by omega⟩
      clear hxs hx hrd hs hr hrb hsb hxn
      go_wp2_with fail
      refine HC.out.mono ?_
      rintro e w1 ⟨rfl, rfl⟩
      go_wp2
      go_round
      case rel => exact ⟨t + 1, by omega, by go_num, by rw [HSu.out]⟩
      case measure => simp [intOf]; omega
    · obtain rfl : t = m.length := by omega
      go_wp2
      go_ret
      exact ⟨rfl, rfl⟩

set_option maxRecDepth 100000 in
set_option maxHeartbeats 4000000 in
theorem rankSums_any (N : Nat) (m : List (List Int)) (hm : ∀ xs ∈ m, xs.length = N) (hN : N ≤ 8) (h12 : m.length ≤ 12) (A : Option Addr) (c : Nat) (w : World) (hr : RdN w w.heap.size icells A m) :
    Calls Tryd.prog 21 #[.int .i64 N, .slice A m.length c] w fun e w' => ∃ A' c', e = .returned (.slice A' N c') ∧ w'.ownsRow w.heap.size 2 1 (.slice A' N c') N ((rsL N m m.length).flatMap icells) ∧ Below w.heap.size w w' := by
  obtain ⟨i0, hi, hz0, hz1, hz2⟩ := info_parts Tryd.info64
  have HI := Lib.hid hi
  have HZ0 := Lib.hid hz0
  have HZ1 := Lib.hid hz1
  have HZ2 := Lib.hid hz2
  clear hi hz0 hz1 hz2
  have HR := Lib.hid hr
  have HM := Lib.hid hm
  have HO0 : Hid (w.ownsRow w.heap.size 2 1 (.slice none 0 0) 0 ((rsL 0 m m.length).flatMap icells)) := nil_own8 _ _
  clear hr hm
  go_enter Tryd.func21, Tryd.ntmps21
  go_wp2_with fail
  go_loopw [5, 9] (fun v i wr => ∃ (k : Nat) (A1 : Option Addr) (c1 : Nat), k ≤ N ∧ i = .int .i64 k ∧ v = .slice A1 k c1 ∧ wr.ownsRow w.heap.size 2 1 (.slice A1 k c1) k ((rsL k m m.length).flatMap icells) ∧ Below w.heap.size w wr)
    (fun _ i _ => N - (intOf i).toNat)
  case atStart => exact ⟨0, _, _, by omega, rfl, rfl, HO0.out, Below.refl _ _⟩
  case round =>
    clear HO0
    obtain ⟨k, A1, c1, hk, rfl, rfl, hO, hB⟩ := hrel
    have HO := Lib.hid hO
    have HB := Lib.hid hB
    clear hO hB
    have hk0 : (0 : Int) ≤ (k : Int) := Int.natCast_nonneg _
    by_cases hlt : k < N
    · have hk8 : (k : Int) < N := by omega
      have HSt : Hid (rsL (k + 1) m m.length = rsL k m m.length ++ [rsTo m k m.length]) := rsL_succ
      obtain ⟨Wa, hWa⟩ : ∃ W, (wr.alloc (.cells #[.int .i64 0] 2)).setCell ⟨wr.heap.size, 0, none⟩ (.int .i64 k) = W := ⟨_, rfl⟩
      have hKa : Blk Wa wr.heap.size 2 #[.int .i64 k] := by rw [← hWa]; exact (Blk.new wr 2 #[.int .i64 0]).set_ 0 _
      have hBa : Below wr.heap.size wr Wa := by rw [← hWa]; exact ((Below.refl _ _).alloc (Nat.le_refl _) _).setCell (p := ⟨wr.heap.size, 0, none⟩) (Nat.le_refl _) _
      have HC := Lib.hid (sumForR_any N m HM.out hN h12 k hlt wr.heap.size A c Wa (HR.out.keep (HB.out.trans (hBa.mono HB.out.size))) (hKa.cell 0))
      have HBa : Hid (Below w.heap.size w Wa) := HB.out.trans (hBa.mono HB.out.size)
      have HOa : Hid (Wa.ownsRow w.heap.size 2 1 (.slice A1 k c1) k ((rsL k m m.length).flatMap icells)) := own_keep' HO.out hBa
      obtain ⟨r, hr⟩ : ∃ r, rsTo m k m.length = r := ⟨_, rfl⟩
      rw [hr] at HSt HC
      clear hr hKa hBa
      go_wp2_with fail
      refine HC.out.mono ?_
      rintro e w1 ⟨rfl, rfl⟩
      clear HC
      go_wp2_with (at_builtin; refine wpList_append_own _ rfl (.tmp 13) (.tmp 17) 30 rfl w.heap.size 2 i0 (.int .i64 0) 1 8 Tryd.underlying30 HI.out HZ0.out HZ1.out HZ2.out rfl (by decide) _ _ _ rfl (HOa.out.alloc _) ⟨Wa.heap.size, 0, none⟩ 1 1 [.int .i64 r] rfl rfl ?f1 ?f2 ?f3 ?f4 ?f5 ?_)
      case f1 => exact cell_one_new _ _ _
      case f2 => simp [Value.oneCell']
      case f3 => unfold maxLen; omega
      case f4 => omega
      case f5 => have := HBa.out.size; simp; omega
      intro v' w8 hown' hgrow _
      have hown8 : w8.ownsRow w.heap.size 2 1 v' (rsL (k + 1) m m.length).length ((rsL (k + 1) m m.length).flatMap icells) := by rw [HSt.out, List.length_append, List.flatMap_append, rsL_len]; exact hown'
      obtain ⟨A8, c8, rfl, -, -⟩ := own_rd icells_length hown8
      rw [rsL_len] at hown8 ⊢
      have HO8 := Lib.hid hown8
      have HB8 : Hid (Below w.heap.size w w8) := (HBa.out.alloc HBa.out.size _).grown hgrow (by have := HBa.out.size; simp; omega) (fun r e => (HOa.out.lt r e).1)
      clear hown' hgrow hown8 hWa
      go_wp2
      go_roundw
      case rel => exact ⟨k + 1, A8, c8, by omega, by go_num, by first | rfl | simp, by simpa using HO8.out, HB8.out⟩
      case measure => simp [intOf]; omega
    · obtain rfl : k = N := by omega
      go_wp2
      go_ret
      exact ⟨_, _, rfl, HO.out, HB.out⟩

set_option maxRecDepth 100000 in
set_option maxHeartbeats 4000000 in
theorem implRankSums_any (n : Int) (m : List (List Int)) (A : Option Addr) (c : Nat) (ad : Nat → Addr) (w : World) (hl : m.length ≤ 1048576) (hx : ∀ xs ∈ m, xs.length ≤ 1048576) (hr : RdN w w.heap.size icells A m) (hE : EW 7 w ad) :
    Calls Tryd.prog 8 #[.int .i64 n, .slice A m.length c] w fun e w' => ∃ v, e = .returned (.tuple #[v, .int .i64 (mkC n m)]) ∧ w'.ownsRow w.heap.size 2 1 v (rsA n m).length ((rsA n m).flatMap icells) ∧ Below w.heap.size w w' := by
  have HCm := Lib.hid (checkMarks_any n m A c ad w hl hx hr hE)
  have HR := Lib.hid hr
  have HE := Lib.hid hE
  clear hx hr hE
  go_enter Tryd.func8, Tryd.ntmps8
  go_wp2_with fail
  refine HCm.out.mono ?_
  rintro e w1 ⟨rfl, hb⟩
  have HB := Lib.hid hb
  clear HCm hb
  cases h0 : mkOk n m
  · have E := Lib.hid (mkC_no h0)
    rw [chk_no, erO_some]
    clear h0
    go_wp2_with fail
    refine (codeOf_5 (HE.out.below HB.out (Nat.le_refl _))).mono ?_
    rintro e w4 ⟨rfl, rfl⟩
    go_wp2
    go_ret2
    refine ⟨_, by (rw [E.out.1]; first | done | rfl), ?_, HB.out⟩
    rw [E.out.2.1]
    exact nil_own8 _ _
  have E := Lib.hid (mkC_yes h0)
  obtain ⟨⟨hn1, hn8⟩, hm12, hrows⟩ := mkOk_iff.1 h0
  obtain ⟨N, hN⟩ : ∃ N : Nat, n.toNat = N := ⟨_, rfl⟩
  have hnN : n = (N : Int) := by omega
  subst hnN
  have hNe : ((N : Int)).toNat = N := by omega
  rw [hNe] at E
  have HS := Lib.hid (rankSums_any N m (fun xs h => by have := (mkRow_iff.1 (hrows xs h)).1; omega) (by omega) hm12 A c w1 (HR.out.keep HB.out))
  rw [chk_yes, erO_none]
  clear h0 hrows hN hNe
  go_wp2_with fail
  refine HS.out.mono ?_
  rintro e w2 ⟨A2, c2, rfl, hO, hb⟩
  have HO := Lib.hid hO
  have HB2 : Hid (Below w.heap.size w w2) := HB.out.trans (hb.mono HB.out.size)
  have HLn := Lib.hid (rsL_len N m m.length)
  clear hO hb HS
  go_wp2
  go_ret2
  refine ⟨_, by (rw [E.out.1]; first | done | rfl), ?_, HB2.out⟩
  rw [E.out.2.1, HLn.out]
  exact own_base HO.out HB.out.size

theorem rsL_one (xs : List Int) : rsL xs.length [xs] 1 = rkL xs := by
  apply List.ext_getElem?
  intro i
  by_cases hi : i < xs.length
  · rw [rsL_at hi]
    have hx : xs[i]? = some xs[i] := List.getElem?_eq_getElem hi
    rw [rsTo_succ (m := [xs]) (t := 0) rfl hx, rkL_at hx]
    simp [rsTo]
  · rw [List.getElem?_eq_none (by rw [rsL_len]; omega), List.getElem?_eq_none (by rw [rkL_len]; omega)]
/-- One list alone, in a slice that has just been made. -/
theorem one_rdN {w : World} {xs : List Int} {a : Option Addr} {c : Nat} (h : Rd w w.heap.size icells a xs) : RdN (w.alloc (.cells #[.slice a xs.length c] 30)) (w.alloc (.cells #[.slice a xs.length c] 30)).heap.size icells (some ⟨w.heap.size, 0, none⟩) [xs] := by
  have hb : Below w.heap.size w (w.alloc (.cells #[.slice a xs.length c] 30)) := (Below.refl _ _).alloc (Nat.le_refl _) _
  have hK : Rs (w.alloc (.cells #[.slice a xs.length c] 30)) w.heap.size 30 hcells [(a, xs.length, c)] := by
    have := Blk.new w 30 (hcells (a, xs.length, c)).toArray
    simpa [Rs, hcells] using this
  refine ⟨[(a, xs.length, c)], rfl, hK.rd hK.lt, fun i hd ys hi hy => ?_⟩
  match i with
  | 0 =>
    obtain rfl := Option.some.inj hi
    obtain rfl := Option.some.inj hy
    exact ⟨rfl, h.keep hb⟩
  | _ + 1 => simp at hi

set_option maxRecDepth 100000 in
set_option maxHeartbeats 4000000 in
theorem implRanksOf_any (n : Int) (m : List (List Int)) (A : Option Addr) (c : Nat) (ad : Nat → Addr) (w : World) (hl : m.length ≤ 1048576) (hx : ∀ xs ∈ m, xs.length ≤ 1048576) (hr : RdN w w.heap.size icells A m) (hE : EW 7 w ad) :
    Calls Tryd.prog 6 #[.int .i64 n, .slice A m.length c] w fun e w' => ∃ A' c' hs, e = .returned (.tuple #[.slice A' (rkA n m).length c', .int .i64 (mkC n m)]) ∧ OwnN w' w.heap.size 30 2 1 icells A' c' hs (rkA n m) ∧ Below w.heap.size w w' := by
  obtain ⟨j0, hj, hy0, hy1, hy2⟩ := info_parts Tryd.infoLN
  have HJ := Lib.hid hj
  have HY0 := Lib.hid hy0
  have HY1 := Lib.hid hy1
  have HY2 := Lib.hid hy2
  clear hj hy0 hy1 hy2
  have HCm := Lib.hid (checkMarks_any n m A c ad w hl hx hr hE)
  have HR := Lib.hid hr
  have HE := Lib.hid hE
  clear hx hr hE
  go_enter Tryd.func6, Tryd.ntmps6
  go_wp2_with fail
  refine HCm.out.mono ?_
  rintro e w1 ⟨rfl, hb⟩
  have HB := Lib.hid hb
  clear HCm hb
  cases h0 : mkOk n m
  · have E := Lib.hid (mkC_no h0)
    rw [chk_no, erO_some]
    clear h0
    go_wp2_with fail
    refine (codeOf_5 (HE.out.below HB.out (Nat.le_refl _))).mono ?_
    rintro e w4 ⟨rfl, rfl⟩
    go_wp2
    go_ret2
    refine ⟨none, 0, [], by (rw [E.out.1, E.out.2.2]; first | done | rfl), ?_, HB.out⟩
    rw [E.out.2.2]
    exact OwnN.nil _ _ _ _ _ _
  have E := Lib.hid (mkC_yes h0)
  obtain ⟨⟨hn1, hn8⟩, hm12, hrows⟩ := mkOk_iff.1 h0
  obtain ⟨N, hN⟩ : ∃ N : Nat, n.toNat = N := ⟨_, rfl⟩
  have hnN : n = (N : Int) := by omega
  subst hnN
  have HRow : Hid (∀ xs ∈ m, xs.length = N) := fun xs h => by have := (mkRow_iff.1 (hrows xs h)).1; omega
  have hN8 : N ≤ 8 := by omega
  have HO1 : Hid (OwnN w1 w1.heap.size 30 2 1 icells none 0 [] ([] : List (List Int))) := OwnN.nil _ _ _ _ _ _
  rw [chk_yes, erO_none]
  clear h0 hrows hN
  go_wp2_with fail
  go_loopw [7, 19] (fun v i wr => ∃ (k : Nat) (A1 : Option Addr) (c1 : Nat) (hs : List Hd), k ≤ m.length ∧ i = .int .i64 k ∧ v = .slice A1 hs.length c1 ∧ OwnN wr w1.heap.size 30 2 1 icells A1 c1 hs (rkLs m k) ∧ Below w.heap.size w wr ∧ w1.heap.size ≤ wr.heap.size)
    (fun _ i _ => m.length - (intOf i).toNat)
  case atStart => exact ⟨0, _, _, [], by omega, rfl, rfl, HO1.out, HB.out, Nat.le_refl _⟩
  case round =>
    clear HO1
    obtain ⟨k, A1, c1, hs, hk, rfl, rfl, hO, hB, hbs⟩ := hrel
    have HO := Lib.hid hO
    have HBk := Lib.hid hB
    have HSz := Lib.hid hbs
    clear hO hB hbs
    have hk0 : (0 : Int) ≤ (k : Int) := Int.natCast_nonneg _
    by_cases hlt : k < m.length
    · obtain ⟨xs, hxs⟩ : ∃ x, m[k]? = some x := ⟨_, List.getElem?_eq_getElem hlt⟩
      have hk8 : (k : Int) < m.length := by omega
      obtain ⟨b, o, a, c', rfl, hb, hc, hrd⟩ := (HR.out.keep HBk.out).at_ hxs
      have hxn := HRow.out xs (List.mem_of_getElem? hxs)
      have HSt : Hid (rkLs m (k + 1) = rkLs m k ++ [rkL xs]) := rkLs_succ hxs
      have hHl : hs.length ≤ 12 := by rw [HO.out.2.1, rkLs_len hk]; omega
      have HBa : Hid (Below wr.heap.size wr (wr.alloc (.cells #[.slice a xs.length c'] 30))) := (Below.refl _ _).alloc (Nat.le_refl _) _
      have HC := Lib.hid (rankSums_any N [xs] (by simpa using hxn) hN8 (by simp) (some ⟨wr.heap.size, 0, none⟩) 1 _ (one_rdN (c := c') hrd))
      have HE1 : Hid (rsL N [xs] [xs].length = rkL xs) := by show _ = _; rw [← hxn]; exact rsL_one xs
      rw [HE1.out] at HC
      have HLk : Hid ((rkL xs).length = N) := by show _ = _; rw [rkL_len, hxn]
      have HC : Hid (Calls Tryd.prog 21 #[.int .i64 N, .slice (some ⟨wr.heap.size, 0, none⟩) 1 1] (wr.alloc (.cells #[.slice a xs.length c'] 30)) fun e w' => ∃ A' c'', e = .returned (.slice A' N c'') ∧ w'.ownsRow (wr.alloc (.cells #[.slice a xs.length c'] 30)).heap.size 2 1 (.slice A' N c'') N ((rkL xs).flatMap icells) ∧ Below (wr.alloc (.cells #[.slice a xs.length c'] 30)).heap.size (wr.alloc (.cells #[.slice a xs.length c'] 30)) w') := HC.out
      clear hxs hrd hxn
      go_wp2_with fail
      refine HC.out.mono ?_
      rintro e w4 ⟨a2, c2, rfl, hO2, hB2⟩
      have hB2' : Below wr.heap.size wr w4 := HBa.out.trans (hB2.mono HBa.out.size)
      have hO2' : w4.ownsRow wr.heap.size 2 1 (.slice a2 (rkL xs).length c2) (rkL xs).length ((rkL xs).flatMap icells) := by rw [HLk.out]; exact own_base hO2 HBa.out.size
      obtain ⟨ys, hys⟩ : ∃ ys, rkL xs = ys := ⟨_, rfl⟩
      rw [hys] at hO2' HSt HLk
      have HO2 := Lib.hid hO2'
      have HB2 := Lib.hid hB2'
      have HLk2 : Hid (N = ys.length) := HLk.out.symm
      have HBn : Hid (Below w4.heap.size w4 (w4.alloc (.cells (hcells (a2, ys.length, c2)).toArray 30))) := (Below.refl _ _).alloc (Nat.le_refl _) _
      have HN2 := Lib.hid (HO.out.keep HB2.out)
      rw [show Value.slice a2 N c2 = Value.slice a2 ys.length c2 from by rw [← HLk2.out]]
      clear hO2 hB2 hc HC HE1 hys hO2' hB2' HBa
      go_wp2_with (first | (at_builtin; refine wpList_append_any _ rfl (.tmp 23) (.tmp 28) 24 24 rfl w1.heap.size 30 j0 (.slice none 0 0) 1 24 Tryd.underlying24 HJ.out HY0.out HY1.out HY2.out rfl (by decide) _ hs.length (hs.flatMap hcells) rfl ?o1 _ 1 (hcells (a2, ys.length, c2)) rfl ?o2 ?o3 ?o4 ?o5 ?_))
      case o1 => exact (HN2.out.keep HBn.out).1
      case o2 => exact src_hd Tryd.underlying24 w4 (a2, ys.length, c2)
      case o3 => unfold maxLen; omega
      case o4 => omega
      case o5 => have := HSz.out; have := HB2.out.size; simp; omega
      intro v' w8 hown' hgrow hblk
      obtain ⟨A8, c8, rfl⟩ : ∃ A8 c8, v' = .slice A8 (hs.length + 1) c8 := by
        rcases hown'.2 with ⟨h1, h2⟩ | ⟨g, cap, cur, h1, -⟩
        · exact ⟨_, _, by rw [h1, h2]⟩
        · exact ⟨_, _, h1⟩
      rw [ownBlock_slice] at hgrow hblk
      rw [ownBlock_slice] at hblk
      have hN8' := HO.out.snoc HSz.out (HB2.out.trans (HBn.out.mono HB2.out.size)) (own_keep' HO2.out HBn.out) hown' hgrow (hblk.imp id (fun h => h.trans (by simp)))
      rw [← HSt.out] at hN8'
      have HN8 := Lib.hid hN8'
      have HB8 : Hid (Below w.heap.size w w8) := by
        show Below _ _ _
        have h1 := HBk.out.trans ((HB2.out.trans (HBn.out.mono HB2.out.size)).mono HBk.out.size)
        exact h1.grown hgrow h1.size (fun r e => Nat.le_trans HB.out.size (own_block HO.out.1 (by rw [ownBlock_slice]; exact e)).1)
      have HS8 : Hid (w1.heap.size ≤ w8.heap.size) := by
        show _ ≤ _
        have h1 := hgrow.size
        simp at h1
        have h3 := HB2.out.size
        have h4 := HSz.out
        omega
      clear hown' hgrow hblk hN8' HN2 HBn
      go_wp2
      go_roundw
      case rel => exact ⟨k + 1, A8, c8, _, by omega, by go_num, by first | rfl | simp, HN8.out, HB8.out, HS8.out⟩
      case measure => simp [intOf]; omega
    · obtain rfl : k = m.length := by omega
      have HLn := Lib.hid HO.out.2.1
      go_wp2
      go_ret2
      refine ⟨A1, c1, hs, by (rw [E.out.1, E.out.2.2, ← HLn.out]; first | done | rfl), ?_, HBk.out⟩
      rw [E.out.2.2]
      exact HO.out.base HB.out.size
end Go.Proofs.YtlagnocglkoomaaDoor
