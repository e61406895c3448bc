/-
  SpreadOf: the contracts, of the model and of the program. Condition: the sentinel errors lie as the row lists them (the program's).
-/
import Derived.Test.YtlagnocglkoomaaDoorTr3
namespace Go.Proofs.YtlagnocglkoomaaDoor
open Go.ChangeShapes Go.WideShapes Go.ChangeAt Go.RowKit Go.Deep

theorem spN_yes {n : Int} {m : List (List Int)} (h : mkOk n m = true) : spN n m = spTo n (suTo (rsA n m) (rsA n m).length) (rsA n m) (rsA n m).length := by rw [spN, if_pos h]
theorem spN_no {n : Int} {m : List (List Int)} (h : mkOk n m = false) : spN n m = 0 := by rw [spN, h]; rfl

set_option maxRecDepth 100000 in
set_option maxHeartbeats 4000000 in
theorem specSpread_any (n : Int) (m : List (List Int)) (A : Option Addr) (c : Nat) (w : World) (hl : m.length ≤ 1048576) (hx : ∀ xs ∈ m, xs.length ≤ 1048576) (hr : RdN w w.heap.size icells A m) :
    Calls Tryd.prog 13 #[.int .i64 n, .slice A m.length c] w fun e w' => e = .returned (.tuple #[.int .i64 (spN n m), .int .i64 (mkC n m)]) ∧ Below w.heap.size w w' := by
  have HC := Lib.hid (l07Ok_any n m A c w hl hx hr)
  have HR := Lib.hid hr
  clear hx hr
  go_enter Tryd.func13, Tryd.ntmps13
  go_wp2_with fail
  refine HC.out.mono ?_
  rintro e w1 ⟨rfl, rfl⟩
  clear HC
  cases h0 : mkOk n m
  · have E := Lib.hid (mkC_no h0)
    have E2 := Lib.hid (spN_no h0)
    clear h0
    go_wp2
    go_ret2
    exact ⟨by (rw [E.out.1, E2.out]; first | done | rfl), Below.refl _ _⟩
  have E := Lib.hid (mkC_yes h0)
  have E2 := Lib.hid (spN_yes h0)
  have HS := Lib.hid (l07Sums_any n m h0 A c w HR.out)
  have hn := (mkOk_iff.1 h0).1
  have HMem : Hid (∀ x ∈ rsA n m, 0 ≤ x ∧ x ≤ 204) := fun x h => rsA_mem h
  have hLn : (rsA n m).length = n.toNat := by rw [E.out.2.1, rsL_len]
  rw [← E.out.2.1] at HS
  obtain ⟨L, hL⟩ : ∃ L, rsA n m = L := ⟨_, rfl⟩
  rw [hL] at HS HMem hLn E2
  rw [← hLn] at HS
  have hL8 : L.length ≤ 8 := by omega
  clear h0 hL hLn
  go_wp2_with fail
  refine HS.out.mono ?_
  rintro e w2 ⟨rfl, hS, hb⟩
  have HL : Hid (Rd w2 w2.heap.size icells (some ⟨w.heap.size, 0, none⟩) L) := hS.rd hS.lt
  have HB := Lib.hid hb
  clear hS hb HS
  have HSb : Hid (∀ k : Nat, k ≤ L.length → 0 ≤ suTo L k ∧ suTo L k ≤ 204 * (k : Int)) := fun k hk => suTo_b (by omega) HMem.out k hk
  go_wp2_with fail
  go_loop [7, 8] (fun s i => ∃ (k : Nat), k ≤ L.length ∧ i = .int .i64 k ∧ s = .int .i64 (suTo L k)) (fun _ i => L.length - (intOf i).toNat)
  case atStart => exact ⟨0, by omega, rfl, rfl⟩
  case round =>
    obtain ⟨k, hk, rfl, rfl⟩ := hrel
    have hk0 : (0 : Int) ≤ (k : Int) := Int.natCast_nonneg _
    by_cases hlt : k < L.length
    · obtain ⟨x, hx⟩ : ∃ x, L[k]? = some x := ⟨_, List.getElem?_eq_getElem hlt⟩
      have hk8 : (k : Int) < L.length := by omega
      obtain ⟨b, o, eA, hbl, hrow⟩ := HL.out.at_ icells_length hx
      obtain ⟨rfl, rfl⟩ : w.heap.size = b ∧ 0 = o := by simpa using eA
      have e1 := rowI hrow
      rw [Nat.zero_add] at e1
      have HSu := Lib.hid (suTo_succ hx)
      have h1 := HSb.out k (by omega)
      have h2 := HMem.out x (List.mem_of_getElem? hx)
      obtain ⟨s, hs⟩ : ∃ s, suTo L k = s := ⟨_, rfl⟩
      rw [hs] at HSu h1 ⊢
      have u1 : IntKind.i64.wrap (s + x) = s + x := IntWalk.i64_in _ ⟨by omega, by omega⟩
      have u2 : wrap64 (s + x) = s + x := IntWalk.wrap64_in _ ⟨by omega, by omega⟩
      clear hx eA hrow hs h1 h2
      go_wp2
      go_round
      case rel => exact ⟨k + 1, by omega, by go_num, by rw [HSu.out]⟩
      case measure => simp [intOf]; omega
    · obtain rfl : k = L.length := by omega
      have h1 := HSb.out L.length (by omega)
      obtain ⟨a, ha⟩ : ∃ a, suTo L L.length = a := ⟨_, rfl⟩
      rw [ha] at h1 E2 ⊢
      have HPb : Hid (∀ k : Nat, k ≤ L.length → 0 ≤ spTo n a L k ∧ spTo n a L k ≤ 100000000 * (k : Int)) := fun k hk => spTo_b hn (by omega) HMem.out k hk
      have ha2 : 0 ≤ a ∧ a ≤ 1632 := by omega
      clear HSb ha h1
      go_wp2_with fail
      go_loop [9, 10] (fun s i => ∃ (k : Nat), k ≤ L.length ∧ i = .int .i64 k ∧ s = .int .i64 (spTo n a L k)) (fun _ i => L.length - (intOf i).toNat)
      case atStart => exact ⟨0, by omega, rfl, rfl⟩
      case round =>
        obtain ⟨k, hk, rfl, rfl⟩ := hrel
        have hk0 : (0 : Int) ≤ (k : Int) := Int.natCast_nonneg _
        by_cases hlt : k < L.length
        · obtain ⟨x, hx⟩ : ∃ x, L[k]? = some x := ⟨_, List.getElem?_eq_getElem hlt⟩
          have hk8 : (k : Int) < L.length := by omega
          obtain ⟨b, o, eA, hbl, hrow⟩ := HL.out.at_ icells_length hx
          obtain ⟨rfl, rfl⟩ : w.heap.size = b ∧ 0 = o := by simpa using eA
          have e1 := rowI hrow
          rw [Nat.zero_add] at e1
          have HSu := Lib.hid (spTo_succ (n := n) (a := a) hx)
          have h1 := HPb.out k (by omega)
          have h3 := spO_b hn ha2 (HMem.out x (List.mem_of_getElem? hx))
          unfold spO at HSu h3
          obtain ⟨s, hs⟩ : ∃ s, spTo n a L k = s := ⟨_, rfl⟩
          rw [hs] at HSu h1 ⊢
          obtain ⟨p, hp⟩ : ∃ p, n * x = p := ⟨_, rfl⟩
          rw [hp] at HSu h3
          obtain ⟨q, hq⟩ : ∃ q, p - a = q := ⟨_, rfl⟩
          have hqb : -10000 ≤ q ∧ q ≤ 10000 := by omega
          rw [hq] at HSu h3
          obtain ⟨z, hz⟩ : ∃ z, q * q = z := ⟨_, rfl⟩
          rw [hz] at HSu h3
          have u1 : IntKind.i64.wrap p = p := IntWalk.i64_in _ ⟨by omega, by omega⟩
          have u2 : wrap64 p = p := IntWalk.wrap64_in _ ⟨by omega, by omega⟩
          have u3 : IntKind.i64.wrap q = q := IntWalk.i64_in _ ⟨by omega, by omega⟩
          have u4 : wrap64 q = q := IntWalk.wrap64_in _ ⟨by omega, by omega⟩
          have u5 : IntKind.i64.wrap z = z := IntWalk.i64_in _ ⟨by omega, by omega⟩
          have u6 : wrap64 z = z := IntWalk.wrap64_in _ ⟨by omega, by omega⟩
          have u7 : IntKind.i64.wrap (s + z) = s + z := IntWalk.i64_in _ ⟨by omega, by omega⟩
          have u8 : wrap64 (s + z) = s + z := IntWalk.wrap64_in _ ⟨by omega, by omega⟩
          clear hx eA hrow hs h1 h3 hqb ha2
          go_wp2
          go_round
          case rel => exact ⟨k + 1, by omega, by go_num, by rw [HSu.out]⟩
          case measure => simp [intOf]; omega
        · obtain rfl : k = L.length := by omega
          obtain ⟨s, hs⟩ : ∃ s, spTo n a L L.length = s := ⟨_, rfl⟩
          rw [hs] at E2 ⊢
          clear hs
          go_wp2
          go_ret2
          exact ⟨by (rw [E.out.1, E2.out]; first | done | rfl), HB.out⟩

theorem spIdent_any (x : Int) (w : World) : Calls Tryd.prog 31 #[.int .i64 x] w fun e w' => e = .returned (.int .i64 x) ∧ w = w' := by
  go_enter Tryd.func31, Tryd.ntmps31
  go_wp2
  go_ret
  exact ⟨rfl, rfl⟩
theorem spSquare_any (n a x : Int) (hn : 1 ≤ n ∧ n ≤ 8) (ha : 0 ≤ a ∧ a ≤ 1632) (hx : 0 ≤ x ∧ x ≤ 204) (D1 D2 : Nat) (w : World) (h1 : w.cell? ⟨D1, 0, none⟩ = some (.int .i64 n)) (h2 : w.cell? ⟨D2, 0, none⟩ = some (.int .i64 a)) :
    Calls Tryd.prog 32 #[.int .i64 x, .pointer (some ⟨D1, 0, none⟩), .pointer (some ⟨D2, 0, none⟩)] w fun e w' => e = .returned (.int .i64 (spO n a x)) ∧ Below w.heap.size w w' := by
  have h3 := spO_b hn ha hx
  have HS : Hid (spO n a x = (n * x - a) * (n * x - a)) := by show _ = _; rfl
  rw [HS.out] at h3
  obtain ⟨p, hp⟩ : ∃ p, n * x = p := ⟨_, rfl⟩
  rw [hp] at HS h3
  obtain ⟨q, hq⟩ : ∃ q, p - a = q := ⟨_, rfl⟩
  rw [hq] at HS h3
  obtain ⟨z, hz⟩ : ∃ z, q * q = z := ⟨_, rfl⟩
  rw [hz] at HS h3
  have u1 : IntKind.i64.wrap p = p := IntWalk.i64_in _ ⟨by omega, by omega⟩
  have u2 : wrap64 p = p := IntWalk.wrap64_in _ ⟨by omega, by omega⟩
  have u3 : IntKind.i64.wrap q = q := IntWalk.i64_in _ ⟨by omega, by omega⟩
  have u4 : wrap64 q = q := IntWalk.wrap64_in _ ⟨by omega, by omega⟩
  have u5 : IntKind.i64.wrap z = z := IntWalk.i64_in _ ⟨by omega, by omega⟩
  have u6 : wrap64 z = z := IntWalk.wrap64_in _ ⟨by omega, by omega⟩
  clear h3 hn ha hx
  go_enter Tryd.func32, Tryd.ntmps32
  go_wp2_with fail
  first
    | (go_region; go_wp2; go_ret; exact ⟨by (rw [HS.out]; first | done | rfl), by first | exact Below.refl _ _ | exact (Below.refl _ _).drew⟩)
    | (go_wp2; go_ret; exact ⟨by (rw [HS.out]; first | done | rfl), by first | exact Below.refl _ _ | exact (Below.refl _ _).drew⟩)
set_option maxRecDepth 100000 in
set_option maxHeartbeats 2000000 in
theorem sumForId_any (L : List Int) (hL : ∀ x ∈ L, 0 ≤ x ∧ x ≤ 204) (h8 : L.length ≤ 8) (A : Option Addr) (c : Nat) (w : World) (hr : Rd w w.heap.size icells A L) :
    Calls Tryd.prog 30 #[.slice A L.length c, .func (.func 31) #[] #[]] w fun e w' => e = .returned (.int .i64 (suTo L L.length)) ∧ w = w' := by
  have HR := Lib.hid hr
  have HMem := Lib.hid hL
  have HSb : Hid (∀ k : Nat, k ≤ L.length → 0 ≤ suTo L k ∧ suTo L k ≤ 204 * (k : Int)) := fun k hk => suTo_b (by omega) hL k hk
  clear hr hL
  go_enter Tryd.func30, Tryd.ntmps30
  go_wp2_with fail
  go_loop [5, 10] (fun s i => ∃ (k : Nat), k ≤ L.length ∧ i = .int .i64 k ∧ s = .int .i64 (suTo L k)) (fun _ i => L.length - (intOf i).toNat)
  case atStart => exact ⟨0, by omega, rfl, rfl⟩
  case round =>
    obtain ⟨k, hk, rfl, rfl⟩ := hrel
    have hk0 : (0 : Int) ≤ (k : Int) := Int.natCast_nonneg _
    by_cases hlt : k < L.length
    · obtain ⟨x, hx⟩ : ∃ x, L[k]? = some x := ⟨_, List.getElem?_eq_getElem hlt⟩
      have hk8 : (k : Int) < L.length := by omega
      obtain ⟨b, o, rfl, hbl, hrow⟩ := HR.out.at_ icells_length hx
      have e1 := rowI hrow
      have HSu := Lib.hid (suTo_succ hx)
      have h1 := HSb.out k (by omega)
      have h2 := HMem.out x (List.mem_of_getElem? hx)
      obtain ⟨s, hs⟩ : ∃ s, suTo L k = s := ⟨_, rfl⟩
      rw [hs] at HSu h1 ⊢
      have u1 : IntKind.i64.wrap (s + x) = s + x := IntWalk.i64_in _ ⟨by omega, by omega⟩
      have u2 : wrap64 (s + x) = s + x := IntWalk.wrap64_in _ ⟨by omega, by omega⟩
      clear hx hrow hs h1 h2
      go_wp2_with fail
      refine (spIdent_any x _).mono ?_
      rintro e w1 ⟨rfl, rfl⟩
      go_wp2
      go_round
      case rel => exact ⟨k + 1, by omega, by go_num, by rw [HSu.out]⟩
      case measure => simp [intOf]; omega
    · obtain rfl : k = L.length := by omega
      go_wp2
      go_ret
      exact ⟨rfl, rfl⟩
set_option maxRecDepth 100000 in
set_option maxHeartbeats 2000000 in
theorem sumForSq_any (n a : Int) (hn : 1 ≤ n ∧ n ≤ 8) (ha : 0 ≤ a ∧ a ≤ 1632) (L : List Int) (hL : ∀ x ∈ L, 0 ≤ x ∧ x ≤ 204) (h8 : L.length ≤ 8) (D1 D2 : Nat) (A : Option Addr) (c : Nat) (w : World) (hr : Rd w w.heap.size icells A L) (hd1 : w.cell? ⟨D1, 0, none⟩ = some (.int .i64 n)) (hd2 : w.cell? ⟨D2, 0, none⟩ = some (.int .i64 a)) :
    Calls Tryd.prog 30 #[.slice A L.length c, .func (.func 32) #[] #[.pointer (some ⟨D1, 0, none⟩), .pointer (some ⟨D2, 0, none⟩)]] w fun e w' => e = .returned (.int .i64 (spTo n a L L.length)) ∧ Below w.heap.size w w' := by
  have HR := Lib.hid hr
  have HMem := Lib.hid hL
  have HD1 := Lib.hid hd1
  have HD2 := Lib.hid hd2
  have hl1 := block_lt_of_cell hd1
  have hl2 := block_lt_of_cell hd2
  have HPb : Hid (∀ k : Nat, k ≤ L.length → 0 ≤ spTo n a L k ∧ spTo n a L k ≤ 100000000 * (k : Int)) := fun k hk => spTo_b hn ha hL k hk
  have HN := Lib.hid hn
  have HA := Lib.hid ha
  clear hr hL hd1 hd2 hn ha
  go_enter Tryd.func30, Tryd.ntmps30
  go_wp2_with fail
  go_loopw [5, 10] (fun s i wr => ∃ (k : Nat), k ≤ L.length ∧ i = .int .i64 k ∧ s = .int .i64 (spTo n a L k) ∧ Below w.heap.size w wr) (fun _ i _ => L.length - (intOf i).toNat)
  case atStart => exact ⟨0, by omega, rfl, rfl, Below.refl _ _⟩
  case round =>
    obtain ⟨k, hk, rfl, rfl, hB⟩ := hrel
    have HB := Lib.hid hB
    clear hB
    have hk0 : (0 : Int) ≤ (k : Int) := Int.natCast_nonneg _
    by_cases hlt : k < L.length
    · obtain ⟨x, hx⟩ : ∃ x, L[k]? = some x := ⟨_, List.getElem?_eq_getElem hlt⟩
      have hk8 : (k : Int) < L.length := by omega
      obtain ⟨b, o, rfl, hbl, hrow⟩ := (HR.out.keep HB.out).at_ icells_length hx
      have e1 := rowI hrow
      have HSu := Lib.hid (spTo_succ (n := n) (a := a) hx)
      have h1 := HPb.out k (by omega)
      have h3 := (spO_b HN.out HA.out (HMem.out x (List.mem_of_getElem? hx))).2
      have HC := Lib.hid (spSquare_any n a x HN.out HA.out (HMem.out x (List.mem_of_getElem? hx)) D1 D2 wr ((HB.out.cell (p := ⟨D1, 0, none⟩) hl1).trans HD1.out) ((HB.out.cell (p := ⟨D2, 0, none⟩) hl2).trans HD2.out))
      obtain ⟨s, hs⟩ : ∃ s, spTo n a L k = s := ⟨_, rfl⟩
      rw [hs] at HSu h1 ⊢
      obtain ⟨z, hz⟩ : ∃ z, spO n a x = z := ⟨_, rfl⟩
      rw [hz] at HSu h3 HC
      have u1 : IntKind.i64.wrap (s + z) = s + z := IntWalk.i64_in _ ⟨by omega, by omega⟩
      have u2 : wrap64 (s + z) = s + z := IntWalk.wrap64_in _ ⟨by omega, by omega⟩
      clear hx hrow hs h1 h3 hz
      go_wp2_with fail
      refine HC.out.mono ?_
      rintro e w1 ⟨rfl, hb⟩
      have HB2 : Hid (Below w.heap.size w w1) := HB.out.trans (hb.mono HB.out.size)
      clear hb HC
      go_wp2
      go_roundw
      case rel => exact ⟨k + 1, by omega, by go_num, by rw [HSu.out], HB2.out⟩
      case measure => simp [intOf]; omega
    · obtain rfl : k = L.length := by omega
      go_wp2
      go_ret
      exact ⟨rfl, HB.out⟩

set_option maxRecDepth 100000 in
set_option maxHeartbeats 4000000 in
theorem implSpread_any (n : Int) (m : List (List Int)) (A : Option Addr) (c : Nat) (ad : Nat → Addr) (w : World) (hl : m.length ≤ 1048576) (hx : ∀ xs ∈ m, xs.length ≤ 1048576) (hr : RdN w w.heap.size icells A m) (hE : EW 7 w ad) :
    Calls Tryd.prog 12 #[.int .i64 n, .slice A m.length c] w fun e w' => e = .returned (.tuple #[.int .i64 (spN n m), .int .i64 (mkC n m)]) ∧ Below w.heap.size w w' := by
  have hB0 : Below w.heap.size w (w.alloc (.cells #[.int .i64 n] 2)) := (Below.refl _ _).alloc (Nat.le_refl _) _
  have hK0 : Blk (w.alloc (.cells #[.int .i64 n] 2)) w.heap.size 2 #[.int .i64 n] := Blk.new w _ _
  have HC := Lib.hid (implRankSums_any n m A c ad _ hl hx (hr.keep hB0) (hE.below hB0 (Nat.le_refl _)))
  have HB0 := Lib.hid hB0
  have HK0 := Lib.hid hK0
  have d0 : (w.alloc (.cells #[.int .i64 n] 2)).cell? ⟨w.heap.size, 0, none⟩ = some (.int .i64 n) := hK0.cell 0
  clear hx hr hE hB0 hK0
  go_enter Tryd.func12, Tryd.ntmps12
  go_wp2_with fail
  clear d0
  refine HC.out.mono ?_
  rintro e w1 ⟨v, rfl, hO, hb⟩
  obtain ⟨A1, c1, rfl, -, hrd⟩ := own_rd icells_length hO
  have HB1 : Hid (Below w.heap.size w w1) := HB0.out.trans (hb.mono HB0.out.size)
  have HK1 : Hid (Blk w1 w.heap.size 2 #[.int .i64 n]) := Blk.keep HK0.out hb
  have HRd := Lib.hid hrd
  clear hb HC hO hrd HB0 HK0
  cases h0 : mkOk n m
  · have E := Lib.hid (mkC_no h0)
    have E2 := Lib.hid (spN_no h0)
    rw [E.out.1]
    clear h0
    go_wp2
    go_ret2
    exact ⟨by (rw [E.out.1, E2.out]; first | done | rfl), HB1.out⟩
  have E := Lib.hid (mkC_yes h0)
  have E2 := Lib.hid (spN_yes h0)
  have hn := (mkOk_iff.1 h0).1
  have HMem : Hid (∀ x ∈ rsA n m, 0 ≤ x ∧ x ≤ 204) := fun x h => rsA_mem h
  have hLn := rsA_len n m
  rw [E.out.1]
  obtain ⟨L, hL⟩ : ∃ L, rsA n m = L := ⟨_, rfl⟩
  rw [hL] at HMem hLn E2 HRd ⊢
  clear h0 hL
  go_wp2_with fail
  refine (sumForId_any L HMem.out hLn A1 c1 w1 HRd.out).mono ?_
  rintro e w2 ⟨rfl, rfl⟩
  have h1 := suTo_b (M := 204) (by omega) HMem.out L.length (Nat.le_refl _)
  obtain ⟨a, ha⟩ : ∃ a, suTo L L.length = a := ⟨_, rfl⟩
  rw [ha] at h1 E2 ⊢
  obtain ⟨W2, hW2⟩ : ∃ W, (w1.alloc (.cells #[.int .i64 0] 2)).setCell ⟨w1.heap.size, 0, none⟩ (.int .i64 a) = W := ⟨_, rfl⟩
  have hK2 : Blk W2 w1.heap.size 2 #[.int .i64 a] := by rw [← hW2]; exact (Blk.new w1 2 #[.int .i64 0]).set_ 0 _
  have hB2 : Below w1.heap.size w1 W2 := by rw [← hW2]; exact ((Below.refl _ _).alloc (Nat.le_refl _) _).setCell (p := ⟨w1.heap.size, 0, none⟩) (Nat.le_refl _) _
  have HC := Lib.hid (sumForSq_any n a hn (by omega) L HMem.out hLn w.heap.size w1.heap.size A1 c1 W2 (HRd.out.keep hB2) ((Blk.keep HK1.out hB2).cell 0) (hK2.cell 0))
  have HB2 : Hid (Below w.heap.size w W2) := HB1.out.trans (hB2.mono HB1.out.size)
  clear ha h1 hK2 hB2 HK1 hn
  obtain ⟨z, hz⟩ : ∃ z, spTo n a L L.length = z := ⟨_, rfl⟩
  rw [hz] at HC E2
  clear hz
  go_wp2_with fail
  clear hW2
  refine HC.out.mono ?_
  rintro e w3 ⟨rfl, hb⟩
  have HB3 : Hid (Below w.heap.size w w3) := HB2.out.trans (hb.mono HB2.out.size)
  clear hb HC
  go_wp2
  go_ret2
  exact ⟨by (rw [E.out.1, E2.out]; first | done | rfl), HB3.out⟩
end Go.Proofs.YtlagnocglkoomaaDoor
