/-
  ValidMarks: the contracts, of the model and of the program, and of what they call. Condition: the sentinel errors for ranges and for what is invalid lie as the row lists them (the program's).
-/
import Derived.Test.YtlagnocglkoomaaDoorTq
import Derived.Test.YtlagnocglkoomaaDoorTm
import Derived.Test.YtlagnocglkoomaaDoorCw
import Derived.Test.YtlagnocglkoomaaDoorI05
namespace Go.Proofs.YtlagnocglkoomaaDoor
open Go.ChangeShapes Go.WideShapes Go.ChangeAt Go.RowKit Go.Deep

theorem l07Samples_any (n : Int) (w : World) : Calls Tryd.prog 45 #[.int .i64 n] w fun e w' => e = .returned (.bool (wi 1 8 n)) ∧ w = w' := by
  go_enter Tryd.func45, Tryd.ntmps45
  go_wp2_with fail
  refine (l00In_any _ _ _ _).mono ?_
  rintro e w1 ⟨rfl, rfl⟩
  go_wp2
  go_ret
  exact ⟨rfl, rfl⟩

set_option maxHeartbeats 2000000 in
theorem l07Ok_any (n : Int) (m : List (List Int)) (A : Option Addr) (c : Nat) (w : World) (hl : m.length ≤ 1048576) (hx : ∀ xs ∈ m, xs.length ≤ 1048576) (hr : RdN w w.heap.size icells A m) :
    Calls Tryd.prog 22 #[.int .i64 n, .slice A m.length c] w fun e w' => e = .returned (.bool (mkOk n m)) ∧ w = w' := by
  have HR := Lib.hid hr
  have HX := Lib.hid hx
  clear hr hx
  have hm0 : (0 : Int) ≤ (m.length : Int) := Int.natCast_nonneg _
  go_enter Tryd.func22, Tryd.ntmps22
  go_wp2_with fail
  refine (l07Samples_any n _).mono ?_
  rintro e w1 ⟨rfl, rfl⟩
  cases h0 : wi 1 8 n
  · have HV : Hid (mkOk n m = false) := mkOk_n h0
    clear h0
    go_wp2
    go_ret
    exact ⟨ret_bool HV.out.symm, rfl⟩
  have H0 := Lib.hid h0
  clear h0
  by_cases h12 : (12 : Int) < m.length
  · have HV : Hid (mkOk n m = false) := mkOk_len (by omega)
    go_wp2
    go_ret
    exact ⟨ret_bool HV.out.symm, rfl⟩
  have h12' : m.length ≤ 12 := by omega
  go_wp2_with fail
  go_loop [5] (fun i => ∃ (k : Nat), k ≤ m.length ∧ i = .int .i64 k ∧ AllU (mkRow n) m k) (fun i => m.length - (intOf i).toNat)
  case atStart => exact ⟨0, by omega, rfl, AllU.zero _ _⟩
  case round =>
    obtain ⟨k, hk, rfl, hT⟩ := hrel
    have HT := Lib.hid hT
    clear hT
    by_cases hlt : k < m.length
    · obtain ⟨xs, hxs⟩ : ∃ x, m[k]? = some x := ⟨_, List.getElem?_eq_getElem hlt⟩
      obtain ⟨b, o, a, c', rfl, hb, hc, hrd⟩ := HR.out.at_ hxs
      have hxl := HX.out xs (List.mem_of_getElem? hxs)
      have hk0 : (0 : Int) ≤ (k : Int) := Int.natCast_nonneg _
      have hk8 : (k : Int) < m.length := by omega
      have hx0 : (0 : Int) ≤ (xs.length : Int) := Int.natCast_nonneg _
      have HXs := Lib.hid hxs
      have HRd := Lib.hid hrd
      clear hxs hrd
      by_cases hn : (xs.length : Int) = n
      rotate_left
      · have hn' : ((xs.length : Int) == n) = false := by simpa using hn
        have HV : Hid (mkOk n m = false) := mkOk_no HXs.out (mkRow_len hn)
        go_wp2
        go_ret
        exact ⟨ret_bool HV.out.symm, rfl⟩
      have hn' : ((xs.length : Int) == n) = true := by simpa using hn
      have HN := Lib.hid hn
      clear hn
      go_wp2_with fail
      go_loop [6] (fun j => ∃ (q : Nat), q ≤ xs.length ∧ j = .int .i64 q ∧ AllU (wi 0 20) xs q) (fun j => xs.length - (intOf j).toNat)
      case atStart => exact ⟨0, by omega, rfl, AllU.zero _ _⟩
      case round =>
        obtain ⟨q, hq, rfl, hS⟩ := hrel
        have HS := Lib.hid hS
        clear hS
        by_cases hlt2 : q < xs.length
        · obtain ⟨x, hx⟩ : ∃ x, xs[q]? = some x := ⟨_, List.getElem?_eq_getElem hlt2⟩
          obtain ⟨b3, o3, rfl, hbl, hrow⟩ := HRd.out.at_ icells_length hx
          have e1 := rowI hrow
          have HX2 := Lib.hid hx
          have hq0 : (0 : Int) ≤ (q : Int) := Int.natCast_nonneg _
          have hq8 : (q : Int) < xs.length := by omega
          clear hx hrow
          go_wp2_with fail
          refine (l00In_any _ _ _ _).mono ?_
          rintro e w1 ⟨rfl, rfl⟩
          rw [show (decide ((0 : Int) ≤ x) && decide (x ≤ 20)) = wi 0 20 x from rfl]
          cases hv : wi 0 20 x
          · have HV : Hid (mkOk n m = false) := mkOk_no HXs.out (mkRow_no (allU_no HX2.out hv))
            clear hv
            go_wp2
            go_ret
            exact ⟨ret_bool HV.out.symm, rfl⟩
          · have HV := Lib.hid hv
            clear hv
            go_wp2
            go_round
            case rel => exact ⟨q + 1, by omega, by go_num, HS.out.step HX2.out HV.out⟩
            case measure => simp [intOf]; omega
        · obtain rfl : q = xs.length := by omega
          have HA : Hid (mkRow n xs = true) := mkRow_yes HN.out HS.out.all
          go_wp2
          go_round
          case rel => exact ⟨k + 1, by omega, by go_num, HT.out.step HXs.out HA.out⟩
          case measure => simp [intOf]; omega
    · obtain rfl : k = m.length := by omega
      have HV : Hid (mkOk n m = true) := mkOk_yes H0.out h12' HT.out
      go_wp2
      go_ret
      exact ⟨ret_bool HV.out.symm, rfl⟩
theorem isMark_any (x : Int) (w : World) : Calls Tryd.prog 55 #[.int .i64 x] w fun e w' => e = .returned (.bool (wi 0 20 x)) ∧ w = w' := by
  go_enter Tryd.func55, Tryd.ntmps55
  go_wp2_with fail
  refine (isWithin_any _ _ _ _).mono ?_
  rintro e w1 ⟨rfl, rfl⟩
  go_wp2
  go_ret
  exact ⟨rfl, rfl⟩
set_option maxHeartbeats 2000000 in
theorem checkEachI_any (xs : List Int) (A : Option Addr) (c : Nat) (ad : Nat → Addr) (w : World) (hl : xs.length ≤ 1048576) (hr : Rd w w.heap.size icells A xs) (hE : I05 w ad) :
    Calls Tryd.prog 57 #[.slice A xs.length c, .func (.func 55) #[] #[]] w fun e w' => e = .returned (erO ad (chk 5 (xs.all (wi 0 20)))) ∧ Below w.heap.size w w' := by
  have HR := Lib.hid hr
  have c5 := hE.c5
  clear hr hE
  go_enter Tryd.func57, Tryd.ntmps57
  go_wp2_with fail
  go_loop [9] (fun i => ∃ (k : Nat), k ≤ xs.length ∧ i = .int .i64 k ∧ AllU (wi 0 20) xs k) (fun i => xs.length - (intOf i).toNat)
  case atStart => exact ⟨0, by omega, rfl, AllU.zero _ _⟩
  case round =>
    obtain ⟨k, hk, rfl, hT⟩ := hrel
    have HT := Lib.hid hT
    clear hT
    by_cases hlt : k < xs.length
    · obtain ⟨x, hx⟩ : ∃ x, xs[k]? = some x := ⟨_, List.getElem?_eq_getElem hlt⟩
      obtain ⟨b, o, rfl, hbl, hrow⟩ := HR.out.at_ icells_length hx
      have e1 := rowI hrow
      have HX := Lib.hid hx
      have hk0 : (0 : Int) ≤ (k : Int) := Int.natCast_nonneg _
      have hk8 : (k : Int) < xs.length := by omega
      clear hx hrow
      go_wp2_with fail
      refine (isMark_any x _).mono ?_
      rintro e w1 ⟨rfl, rfl⟩
      cases hv : wi 0 20 x
      · have HV := Lib.hid hv
        clear hv
        go_wp2
        go_ret
        exact ⟨by rw [allU_no HX.out HV.out]; rfl, Below.refl _ _⟩
      · have HV := Lib.hid hv
        clear hv
        go_wp2
        go_round
        case rel => exact ⟨k + 1, by omega, by go_num, HT.out.step HX.out HV.out⟩
        case measure => simp [intOf]; omega
    · obtain rfl : k = xs.length := by omega
      go_wp2
      go_ret
      exact ⟨by rw [HT.out.all]; rfl, Below.refl _ _⟩

set_option maxHeartbeats 2000000 in
theorem implValidMarks_any (n : Int) (m : List (List Int)) (A : Option Addr) (c : Nat) (ad : Nat → Addr) (w : World) (hl : m.length ≤ 1048576) (hx : ∀ xs ∈ m, xs.length ≤ 1048576) (hr : RdN w w.heap.size icells A m) (hE : I05 w ad) :
    Calls Tryd.prog 40 #[.int .i64 n, .slice A m.length c] w fun e w' => e = .returned (.bool (mkOk n m)) ∧ Below w.heap.size w w' := by
  have HR := Lib.hid hr
  have HX := Lib.hid hx
  have HE := Lib.hid hE
  clear hr hx hE
  have hm0 : (0 : Int) ≤ (m.length : Int) := Int.natCast_nonneg _
  go_enter Tryd.func40, Tryd.ntmps40
  go_wp2_with fail
  refine (checkSamples_any n ad _ HE.out.c0).mono ?_
  rintro e w1 ⟨rfl, rfl⟩
  rw [show (decide ((1 : Int) ≤ n) && decide (n ≤ 8)) = wi 1 8 n from rfl]
  cases h0 : wi 1 8 n
  · have HV : Hid (mkOk n m = false) := mkOk_n h0
    rw [chk_no, erO_some]
    clear h0
    go_wp2
    go_ret
    exact ⟨ret_bool HV.out.symm, Below.refl _ _⟩
  have H0 := Lib.hid h0
  rw [chk_yes, erO_none]
  clear h0
  by_cases h12 : (12 : Int) < m.length
  · have HV : Hid (mkOk n m = false) := mkOk_len (by omega)
    go_wp2
    go_ret
    exact ⟨ret_bool HV.out.symm, Below.refl _ _⟩
  have h12' : m.length ≤ 12 := by omega
  go_wp2_with fail
  go_loopw [18] (fun i wr => ∃ (k : Nat), k ≤ m.length ∧ i = .int .i64 k ∧ AllU (mkRow n) m k ∧ Below w.heap.size w wr) (fun i _ => m.length - (intOf i).toNat)
  case atStart => exact ⟨0, by omega, rfl, AllU.zero _ _, Below.refl _ _⟩
  case round =>
    obtain ⟨k, hk, rfl, hT, hB⟩ := hrel
    have HT := Lib.hid hT
    have HB := Lib.hid hB
    clear hT hB
    by_cases hlt : k < m.length
    · obtain ⟨xs, hxs⟩ : ∃ x, m[k]? = some x := ⟨_, List.getElem?_eq_getElem hlt⟩
      obtain ⟨b, o, a, c', rfl, hb, hc, hrd⟩ := (HR.out.keep HB.out).at_ hxs
      have hxl := HX.out xs (List.mem_of_getElem? hxs)
      have hk0 : (0 : Int) ≤ (k : Int) := Int.natCast_nonneg _
      have hk8 : (k : Int) < m.length := by omega
      have hx0 : (0 : Int) ≤ (xs.length : Int) := Int.natCast_nonneg _
      have HXs := Lib.hid hxs
      have HRd := Lib.hid hrd
      clear hxs hrd
      by_cases hn : (xs.length : Int) = n
      rotate_left
      · have hn' : ((xs.length : Int) == n) = false := by simpa using hn
        have HV : Hid (mkOk n m = false) := mkOk_no HXs.out (mkRow_len hn)
        go_wp2
        go_ret
        exact ⟨ret_bool HV.out.symm, HB.out⟩
      have hn' : ((xs.length : Int) == n) = true := by simpa using hn
      have HN := Lib.hid hn
      clear hn
      go_wp2_with fail
      refine (checkEachI_any xs a c' ad _ hxl HRd.out (HE.out.below HB.out (Nat.le_refl _))).mono ?_
      rintro e w2 ⟨rfl, hb2⟩
      have HB2 : Hid (Below w.heap.size w w2) := HB.out.trans (hb2.mono HB.out.size)
      clear hb2
      cases hv : xs.all (wi 0 20)
      · have HV : Hid (mkOk n m = false) := mkOk_no HXs.out (mkRow_no hv)
        rw [chk_no, erO_some]
        clear hv
        go_wp2
        go_ret
        exact ⟨ret_bool HV.out.symm, HB2.out⟩
      · have HA : Hid (mkRow n xs = true) := mkRow_yes HN.out hv
        rw [chk_yes, erO_none]
        clear hv
        go_wp2
        go_roundw
        case rel => exact ⟨k + 1, by omega, by go_num, HT.out.step HXs.out HA.out, HB2.out⟩
        case measure => simp [intOf]; omega
    · obtain rfl : k = m.length := by omega
      have HV : Hid (mkOk n m = true) := mkOk_yes H0.out h12' HT.out
      go_wp2
      go_ret
      exact ⟨ret_bool HV.out.symm, HB.out⟩
end Go.Proofs.YtlagnocglkoomaaDoor
