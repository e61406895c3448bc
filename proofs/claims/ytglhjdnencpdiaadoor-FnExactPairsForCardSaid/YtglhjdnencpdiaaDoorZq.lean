/-
  Pairs: the contracts of both PairsFor. Condition: the sentinel errors lie as the row lists them.
-/
import Derived.Test.YtglhjdnencpdiaaDoorZs
import Derived.Test.YtglhjdnencpdiaaDoorZp
import Derived.Test.YtglhjdnencpdiaaDoorZr
import Derived.Test.YtglhjdnencpdiaaDoorTv
namespace Go.Proofs.YtglhjdnencpdiaaDoor
open Go.ChangeShapes Go.WideShapes Go.ChangeAt Go.RowKit Go.Deep

def pfA (n : Int) (m : List (List Int)) : List (List Int) := if mkOk n m = true then mat n.toNat (prF m m.length) else []
theorem pfA_yes {n : Int} {m : List (List Int)} (h : mkOk n m = true) : pfA n m = mat n.toNat (prF m m.length) := by simp [pfA, h]
theorem pfA_no {n : Int} {m : List (List Int)} (h : mkOk n m = false) : pfA n m = [] := by simp [pfA, h]
theorem pfA_len (n : Int) (m : List (List Int)) : (pfA n m).length ≤ 1048576 := by
  unfold pfA
  split
  · have h : mkOk n m = true := by assumption
    have := (mkOk_iff.1 h).1
    rw [mat_len]; omega
  · simp
theorem pfA_each (n : Int) (m : List (List Int)) : ∀ ys ∈ pfA n m, ys.length ≤ 1048576 := by
  unfold pfA
  split
  · have h : mkOk n m = true := by assumption
    have := (mkOk_iff.1 h).1
    intro ys hy
    obtain ⟨a, -, rfl⟩ := List.mem_map.1 hy
    rw [mRow_len]; omega
  · simp

set_option maxRecDepth 100000 in
set_option maxHeartbeats 2000000 in
theorem specPairsFor_any (n : Int) (m : List (List Int)) (A : Option Addr) (c : Nat) (w : World) (hl : m.length ≤ 1048576) (hx : ∀ xs ∈ m, xs.length ≤ 1048576) (hr : RdN w w.heap.size icells A m) :
    Calls Tryd.prog 8 #[.int .i64 n, .slice A m.length c] w fun e w' => ∃ A' c', e = .returned (.tuple #[.slice A' (pfA n m).length c', .int .i64 (mkC n m)]) ∧ RdN w' w'.heap.size icells A' (pfA n m) ∧ Below w.heap.size w w' := by
  have HC := Lib.hid (l07Ok_any n m A c w hl hx hr)
  have HR := Lib.hid hr
  clear hx hr
  go_enter Tryd.func8, Tryd.ntmps8
  go_wp2_with fail
  refine HC.out.mono ?_
  rintro e w1 ⟨rfl, rfl⟩
  clear HC
  cases h0 : mkOk n m
  · have E := Lib.hid (mkC_no h0)
    have E2 := Lib.hid (pfA_no h0)
    clear h0
    go_wp2
    go_ret2
    refine ⟨_, _, by (rw [E.out.1, E2.out]; first | done | rfl), ?_, (Below.refl _ _).alloc (Nat.le_refl _) _⟩
    rw [E2.out]
    exact (empty_ownH w w.heap.size (Nat.le_refl _)).rd icells_length
  have E := Lib.hid (mkC_yes h0)
  have E2 := Lib.hid (pfA_yes h0)
  have HS := Lib.hid (l07Pairs_any n m h0 A c w HR.out)
  have HLn : Hid ((mat n.toNat (prF m m.length)).length = n.toNat) := mat_len _ _
  clear h0
  go_wp2_with fail
  refine HS.out.mono ?_
  rintro e w2 ⟨Aq, cq, hsq, rfl, hO, hb⟩
  have HO := Lib.hid hO
  have HB := Lib.hid hb
  clear hO hb HS
  go_wp2
  go_ret2
  refine ⟨_, _, by (rw [E.out.1, E2.out, HLn.out]; first | done | rfl), ?_, HB.out⟩
  rw [E2.out]
  exact HO.out.rd icells_length

set_option maxRecDepth 100000 in
set_option maxHeartbeats 4000000 in
theorem implPairsFor_any (n : Int) (m : List (List Int)) (A : Option Addr) (c : Nat) (ad : Nat → Addr) (w : World) (hl : m.length ≤ 1048576) (hx : ∀ xs ∈ m, xs.length ≤ 1048576) (hr : RdN w w.heap.size icells A m) (hE : EW 7 w ad) :
    Calls Tryd.prog 10 #[.int .i64 n, .slice A m.length c] w fun e w' => ∃ A' c' hs, e = .returned (.tuple #[.slice A' (pfA n m).length c', .int .i64 (mkC n m)]) ∧ OwnN w' w.heap.size 34 2 1 icells A' c' hs (pfA n m) ∧ Below w.heap.size w w' := by
  have HCm := Lib.hid (checkMarks_any n m A c ad w hl hx hr hE)
  have HR := Lib.hid hr
  have HE := Lib.hid hE
  clear hx hr hE
  go_enter Tryd.func10, Tryd.ntmps10
  go_wp2_with fail
  refine HCm.out.mono ?_
  rintro e w1 ⟨rfl, hb⟩
  have HB := Lib.hid hb
  clear HCm hb
  cases h0 : mkOk n m
  · have E := Lib.hid (mkC_no h0)
    have E2 := Lib.hid (pfA_no h0)
    rw [chk_no, erO_some]
    clear h0
    go_wp2_with fail
    refine (codeOf_5 (HE.out.below HB.out (Nat.le_refl _))).mono ?_
    rintro e w4 ⟨rfl, rfl⟩
    go_wp2
    go_ret2
    refine ⟨none, 0, [], by (rw [E.out.1, E2.out]; first | done | rfl), ?_, HB.out⟩
    rw [E2.out]
    exact OwnN.nil _ _ _ _ _ _
  have E := Lib.hid (mkC_yes h0)
  have E2 := Lib.hid (pfA_yes h0)
  obtain ⟨⟨hn1, hn8⟩, hm12, hrows⟩ := mkOk_iff.1 h0
  obtain ⟨N, hN⟩ : ∃ N : Nat, n.toNat = N := ⟨_, rfl⟩
  have hnN : n = (N : Int) := by omega
  rw [hN] at E2
  subst hnN
  have HRow : ∀ xs ∈ m, xs.length = N := fun xs h => by have := (mkRow_iff.1 (hrows xs h)).1; omega
  have hN8 : N ≤ 8 := by omega
  have hps := prPs_len hN8 m m.length
  have HT : Hid (tbL (prPs N m m.length) N N = mat N (prF m m.length)) := tbL_mat _ _ _ (fun a b ha hb => prPs_cnt m ha hb _)
  have HLn : Hid ((mat N (prF m m.length)).length = N) := mat_len _ _
  have HC := Lib.hid (preferences_any N hN8 m HRow hm12 A c w1 (HR.out.keep HB.out))
  rw [chk_yes, erO_none]
  clear h0 hrows hN HRow
  go_wp2_with fail
  refine HC.out.mono ?_
  rintro e w2 ⟨B, k, D, rfl, q1, q2, q3, q4, q5⟩
  have HC2 := Lib.hid (table_any N hN8 (prPs N m m.length) (by omega) B k D w2 q3 q4)
  have HB2 := Lib.hid (HB.out.trans (q5.mono HB.out.size))
  rw [HT.out] at HC2
  clear q1 q3 q4 q5 HC
  go_wp2_with fail
  refine HC2.out.mono ?_
  rintro e w3 ⟨Aq, cq, hsq, rfl, hO, hb⟩
  have HO := Lib.hid (hO.base HB2.out.size)
  have HB3 := Lib.hid (HB2.out.trans (hb.mono HB2.out.size))
  clear hO hb HC2
  go_wp2
  go_ret2
  refine ⟨Aq, cq, hsq, by (rw [E.out.1, E2.out, HLn.out]; first | done | rfl), ?_, HB3.out⟩
  rw [E2.out]
  exact HO.out
end Go.Proofs.YtglhjdnencpdiaaDoor
