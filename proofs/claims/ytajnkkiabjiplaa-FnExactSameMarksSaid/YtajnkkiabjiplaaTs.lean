/-
  SameMarks: the contracts, of the model and of the program, and of what they call. No condition.
-/
import Derived.Test.YtajnkkiabjiplaaTm
namespace Go.Proofs.Ytajnkkiabjiplaa
open Go.ChangeShapes Go.WideShapes Go.ChangeAt Go.RowKit Go.Deep

def SmTo {T : Type} (xs ys : List T) (k : Nat) : Prop := ∀ j : Nat, j < k → xs[j]? = ys[j]?
theorem SmTo.zero {T : Type} (xs ys : List T) : SmTo xs ys 0 := fun j h => absurd h (Nat.not_lt_zero _)
theorem SmTo.step {T : Type} {xs ys : List T} {k : Nat} (h : SmTo xs ys k) {x y : T} (hx : xs[k]? = some x) (hy : ys[k]? = some y) (e : x = y) : SmTo xs ys (k + 1) := fun j hj => by
  by_cases ej : j = k
  · subst ej; rw [hx, hy, e]
  · exact h j (by omega)
theorem SmTo.all {T : Type} {xs ys : List T} (h : SmTo xs ys xs.length) (hl : xs.length = ys.length) : xs = ys := by
  apply List.ext_getElem?
  intro j
  by_cases hj : j < xs.length
  · exact h j hj
  · rw [List.getElem?_eq_none (by omega), List.getElem?_eq_none (by omega)]
theorem sm_no {T : Type} {xs ys : List T} {k : Nat} {x y : T} (hx : xs[k]? = some x) (hy : ys[k]? = some y) (e : x ≠ y) : xs ≠ ys := fun h => by
  subst h; exact e (Option.some.inj (hx.symm.trans hy))
theorem sm_len {T : Type} {xs ys : List T} (h : xs.length ≠ ys.length) : xs ≠ ys := fun e => h (by rw [e])

set_option maxRecDepth 100000 in
set_option maxHeartbeats 2000000 in
theorem l00Same_any (xs ys : List Int) (A B : Option Addr) (c d : Nat) (w : World) (hl : xs.length ≤ 1048576) (hl2 : ys.length ≤ 1048576) (hA : Rd w w.heap.size icells A xs) (hB : Rd w w.heap.size icells B ys) :
    Calls Try.prog 15 #[.slice A xs.length c, .slice B ys.length d] w fun e w' => e = .returned (.bool (decide (xs = ys))) ∧ Below w.heap.size w w' := by
  have HA := Lib.hid hA
  have HB := Lib.hid hB
  clear hA hB
  by_cases hne : (xs.length : Int) = ys.length
  rotate_left
  · have hne' : ((xs.length : Int) == (ys.length : Int)) = false := by simpa using hne
    have HV : Hid (decide (xs = ys) = false) := by show _ = _; rw [decide_eq_false_iff_not]; exact sm_len (by omega)
    go_enter Try.func15, Try.ntmps15
    go_wp2
    go_ret
    exact ⟨ret_bool HV.out.symm, Below.refl _ _⟩
  have hne' : ((xs.length : Int) == (ys.length : Int)) = true := by simpa using hne
  have HN : Hid (xs.length = ys.length) := by show _ = _; omega
  clear hne
  go_enter Try.func15, Try.ntmps15
  go_wp2_with fail
  go_loopw [5] (fun i wr => ∃ (k : Nat), k ≤ xs.length ∧ i = .int .i64 k ∧ SmTo xs ys k ∧ Below w.heap.size w wr) (fun i _ => xs.length - (intOf i).toNat)
  case atStart => exact ⟨0, by omega, rfl, SmTo.zero _ _, Below.refl _ _⟩
  case round =>
    obtain ⟨k, hk, rfl, hT, hw⟩ := hrel
    have HT := Lib.hid hT
    have HW := Lib.hid hw
    clear hT hw
    by_cases hlt : k < xs.length
    · obtain ⟨x, hx⟩ : ∃ x, xs[k]? = some x := ⟨_, List.getElem?_eq_getElem hlt⟩
      obtain ⟨y, hy⟩ : ∃ y, ys[k]? = some y := ⟨_, List.getElem?_eq_getElem (by have := HN.out; omega)⟩
      obtain ⟨g, o, rfl, hg, hc⟩ := (HA.out.below (Nat.le_refl _) HW.out).at_ icells_length hx
      obtain ⟨g', o', rfl, hg', hc'⟩ := (HB.out.below (Nat.le_refl _) HW.out).at_ icells_length hy
      have e1 := rowI hc
      have e2 := rowI hc'
      have HX := Lib.hid hx
      have HY := Lib.hid hy
      have hk0 : (0 : Int) ≤ (k : Int) := Int.natCast_nonneg _
      have hk8 : (k : Int) < xs.length := by omega
      have hk9 : (k : Int) < ys.length := by have := HN.out; omega
      clear hx hy hc hc'
      by_cases he : x = y
      · have he' : (x == y) = true := by simpa using he
        have HE := Lib.hid he
        clear he
        go_wp2_with fail
        go_region_held3 (fun w' => w'.cell? ⟨g, o + k, none⟩ = some (.int .i64 x) ∧ w'.cell? ⟨g', o' + k, none⟩ = some (.int .i64 y)) (go_keep) (fail)
        go_wp2
        go_roundw
        case rel => exact ⟨k + 1, by omega, by go_num, HT.out.step HX.out HY.out HE.out, HW.out.drew⟩
        case measure => simp [intOf]; omega
      · have he' : (x == y) = false := by simpa using he
        have HV : Hid (decide (xs = ys) = false) := by show _ = _; rw [decide_eq_false_iff_not]; exact sm_no HX.out HY.out he
        clear he
        go_wp2_with fail
        go_region_held3 (fun w' => w'.cell? ⟨g, o + k, none⟩ = some (.int .i64 x) ∧ w'.cell? ⟨g', o' + k, none⟩ = some (.int .i64 y)) (go_keep) (fail)
        go_wp2
        go_ret
        exact ⟨ret_bool HV.out.symm, HW.out.drew⟩
    · obtain rfl : k = xs.length := by omega
      have HV : Hid (decide (xs = ys) = true) := by show _ = _; rw [decide_eq_true_eq]; exact HT.out.all HN.out
      go_wp2
      go_ret
      exact ⟨ret_bool HV.out.symm, HW.out⟩

set_option maxRecDepth 100000 in
set_option maxHeartbeats 2000000 in
theorem sliceEqual_any (xs ys : List Int) (A B : Option Addr) (c d : Nat) (w : World) (hl : xs.length ≤ 1048576) (hl2 : ys.length ≤ 1048576) (hA : Rd w w.heap.size icells A xs) (hB : Rd w w.heap.size icells B ys) :
    Calls Try.prog 13 #[.slice A xs.length c, .slice B ys.length d] w fun e w' => e = .returned (.bool (decide (xs = ys))) ∧ Below w.heap.size w w' := by
  have HA := Lib.hid hA
  have HB := Lib.hid hB
  clear hA hB
  by_cases hne : (xs.length : Int) = ys.length
  rotate_left
  · have hne' : ((xs.length : Int) == (ys.length : Int)) = false := by simpa using hne
    have HV : Hid (decide (xs = ys) = false) := by show _ = _; rw [decide_eq_false_iff_not]; exact sm_len (by omega)
    go_enter Try.func13, Try.ntmps13
    go_wp2
    go_ret
    exact ⟨ret_bool HV.out.symm, Below.refl _ _⟩
  have hne' : ((xs.length : Int) == (ys.length : Int)) = true := by simpa using hne
  have HN : Hid (xs.length = ys.length) := by show _ = _; omega
  clear hne
  go_enter Try.func13, Try.ntmps13
  go_wp2_with fail
  go_loopw [13] (fun i wr => ∃ (k : Nat), k ≤ xs.length ∧ i = .int .i64 k ∧ SmTo xs ys k ∧ Below w.heap.size w wr) (fun i _ => xs.length - (intOf i).toNat)
  case atStart => exact ⟨0, by omega, rfl, SmTo.zero _ _, Below.refl _ _⟩
  case round =>
    obtain ⟨k, hk, rfl, hT, hw⟩ := hrel
    have HT := Lib.hid hT
    have HW := Lib.hid hw
    clear hT hw
    by_cases hlt : k < xs.length
    · obtain ⟨x, hx⟩ : ∃ x, xs[k]? = some x := ⟨_, List.getElem?_eq_getElem hlt⟩
      obtain ⟨y, hy⟩ : ∃ y, ys[k]? = some y := ⟨_, List.getElem?_eq_getElem (by have := HN.out; omega)⟩
      obtain ⟨g, o, rfl, hg, hc⟩ := (HA.out.below (Nat.le_refl _) HW.out).at_ icells_length hx
      obtain ⟨g', o', rfl, hg', hc'⟩ := (HB.out.below (Nat.le_refl _) HW.out).at_ icells_length hy
      have e1 := rowI hc
      have e2 := rowI hc'
      have HX := Lib.hid hx
      have HY := Lib.hid hy
      have hk0 : (0 : Int) ≤ (k : Int) := Int.natCast_nonneg _
      have hk8 : (k : Int) < xs.length := by omega
      have hk9 : (k : Int) < ys.length := by have := HN.out; omega
      clear hx hy hc hc'
      by_cases he : x = y
      · have he' : (x == y) = true := by simpa using he
        have HE := Lib.hid he
        clear he
        go_wp2_with fail
        go_region_held3 (fun w' => w'.cell? ⟨g, o + k, none⟩ = some (.int .i64 x) ∧ w'.cell? ⟨g', o' + k, none⟩ = some (.int .i64 y)) (go_keep) (fail)
        go_wp2
        go_roundw
        case rel => exact ⟨k + 1, by omega, by go_num, HT.out.step HX.out HY.out HE.out, HW.out.drew⟩
        case measure => simp [intOf]; omega
      · have he' : (x == y) = false := by simpa using he
        have HV : Hid (decide (xs = ys) = false) := by show _ = _; rw [decide_eq_false_iff_not]; exact sm_no HX.out HY.out he
        clear he
        go_wp2_with fail
        go_region_held3 (fun w' => w'.cell? ⟨g, o + k, none⟩ = some (.int .i64 x) ∧ w'.cell? ⟨g', o' + k, none⟩ = some (.int .i64 y)) (go_keep) (fail)
        go_wp2
        go_ret
        exact ⟨ret_bool HV.out.symm, HW.out.drew⟩
    · obtain rfl : k = xs.length := by omega
      have HV : Hid (decide (xs = ys) = true) := by show _ = _; rw [decide_eq_true_eq]; exact HT.out.all HN.out
      go_wp2
      go_ret
      exact ⟨ret_bool HV.out.symm, HW.out⟩

set_option maxRecDepth 100000 in
set_option maxHeartbeats 4000000 in
theorem l07Same_any (m m2 : List (List Int)) (A B : Option Addr) (c d : Nat) (w : World) (hl : m.length ≤ 1048576) (hx : ∀ xs ∈ m, xs.length ≤ 1048576) (hl2 : m2.length ≤ 1048576) (hx2 : ∀ xs ∈ m2, xs.length ≤ 1048576) (hA : RdN w w.heap.size icells A m) (hB : RdN w w.heap.size icells B m2) :
    Calls Try.prog 10 #[.slice A m.length c, .slice B m2.length d] w fun e w' => e = .returned (.bool (decide (m = m2))) ∧ Below w.heap.size w w' := by
  have HA := Lib.hid hA
  have HB := Lib.hid hB
  have HX := Lib.hid hx
  have HX2 := Lib.hid hx2
  clear hA hB hx hx2
  by_cases hne : (m.length : Int) = m2.length
  rotate_left
  · have hne' : ((m.length : Int) == (m2.length : Int)) = false := by simpa using hne
    have HV : Hid (decide (m = m2) = false) := by show _ = _; rw [decide_eq_false_iff_not]; exact sm_len (by omega)
    go_enter Try.func10, Try.ntmps10
    go_wp2
    go_ret
    exact ⟨ret_bool HV.out.symm, Below.refl _ _⟩
  have hne' : ((m.length : Int) != (m2.length : Int)) = false := by simpa using hne
  have HN : Hid (m.length = m2.length) := by show _ = _; omega
  clear hne
  go_enter Try.func10, Try.ntmps10
  go_wp2_with fail
  go_loopw [5] (fun i wr => ∃ (k : Nat), k ≤ m.length ∧ i = .int .i64 k ∧ SmTo m m2 k ∧ Below w.heap.size w wr) (fun i _ => m.length - (intOf i).toNat)
  case atStart => exact ⟨0, by omega, rfl, SmTo.zero _ _, Below.refl _ _⟩
  case round =>
    obtain ⟨k, hk, rfl, hT, hw⟩ := hrel
    have HT := Lib.hid hT
    have HW := Lib.hid hw
    clear hT hw
    by_cases hlt : k < m.length
    · obtain ⟨xs, hxs⟩ : ∃ x, m[k]? = some x := ⟨_, List.getElem?_eq_getElem hlt⟩
      obtain ⟨ys, hys⟩ : ∃ y, m2[k]? = some y := ⟨_, List.getElem?_eq_getElem (by have := HN.out; omega)⟩
      obtain ⟨b, o, a, c1, rfl, hb1, e1, r1⟩ := (HA.out.keep HW.out).at_ hxs
      obtain ⟨b', o', a', c2, rfl, hb2, e2, r2⟩ := (HB.out.keep HW.out).at_ hys
      have hxl := HX.out xs (List.mem_of_getElem? hxs)
      have hyl := HX2.out ys (List.mem_of_getElem? hys)
      have HXs := Lib.hid hxs
      have HYs := Lib.hid hys
      have R1 := Lib.hid r1
      have R2 := Lib.hid r2
      have hk0 : (0 : Int) ≤ (k : Int) := Int.natCast_nonneg _
      have hk8 : (k : Int) < m.length := by omega
      have hk9 : (k : Int) < m2.length := by have := HN.out; omega
      have hs0 : Below wr.heap.size wr wr := Below.refl _ _
      clear hxs hys r1 r2
      have HC : Hid (∀ w', Rd w' w'.heap.size icells a xs → Rd w' w'.heap.size icells a' ys → Calls Try.prog 15 #[.slice a xs.length c1, .slice a' ys.length c2] w' fun e w'' => e = .returned (.bool (decide (xs = ys))) ∧ Below w'.heap.size w' w'') := fun w' h1 h2 => l00Same_any xs ys a a' c1 c2 w' hxl hyl h1 h2
      by_cases he : xs = ys
      · have he' : decide (xs = ys) = true := by simpa using he
        have HE := Lib.hid he
        rw [he'] at HC
        clear he he'
        go_wp2_with fail
        go_region_held3 (fun w' => w'.cell? ⟨b, o + k, none⟩ = some (.slice a xs.length c1) ∧ w'.cell? ⟨b', o' + k, none⟩ = some (.slice a' ys.length c2) ∧ Below wr.heap.size wr w') ((refine ⟨?_, ?_, ?_⟩ <;> (first | assumption | exact Below.drew ‹_› | (simp [*]; done))))
          (first
            | (go_at_call 15; refine (HC.out _ (R1.out.keep (by first | assumption | exact Below.drew (by assumption))) (R2.out.keep (by first | assumption | exact Below.drew (by assumption)))).mono ?_; rintro e w2 ⟨rfl, hb⟩; obtain ⟨r0, r1, r2⟩ := keptH (b := b) (b' := b') (o := o + k) (o' := o' + k) hb1 hb2 (by first | assumption | exact Below.drew (by assumption)) hb (by assumption) (by assumption)))
        have HR : Hid (Below wr.heap.size wr w2) := (by assumption : Below wr.heap.size wr w2)
        have HWn : Hid (Below w.heap.size w w2) := HW.out.trans (HR.out.mono HW.out.size)
        clear HR
        go_wp2
        go_roundw
        case rel => exact ⟨k + 1, by omega, by go_num, HT.out.step HXs.out HYs.out HE.out, HWn.out⟩
        case measure => simp [intOf]; omega
      · have he' : decide (xs = ys) = false := by simpa using he
        have HV : Hid (decide (m = m2) = false) := by show _ = _; rw [decide_eq_false_iff_not]; exact sm_no HXs.out HYs.out he
        rw [he'] at HC
        clear he he'
        go_wp2_with fail
        go_region_held3 (fun w' => w'.cell? ⟨b, o + k, none⟩ = some (.slice a xs.length c1) ∧ w'.cell? ⟨b', o' + k, none⟩ = some (.slice a' ys.length c2) ∧ Below wr.heap.size wr w') ((refine ⟨?_, ?_, ?_⟩ <;> (first | assumption | exact Below.drew ‹_› | (simp [*]; done))))
          (first
            | (go_at_call 15; refine (HC.out _ (R1.out.keep (by first | assumption | exact Below.drew (by assumption))) (R2.out.keep (by first | assumption | exact Below.drew (by assumption)))).mono ?_; rintro e w2 ⟨rfl, hb⟩; obtain ⟨r0, r1, r2⟩ := keptH (b := b) (b' := b') (o := o + k) (o' := o' + k) hb1 hb2 (by first | assumption | exact Below.drew (by assumption)) hb (by assumption) (by assumption)))
        have HR : Hid (Below wr.heap.size wr w2) := (by assumption : Below wr.heap.size wr w2)
        have HWn : Hid (Below w.heap.size w w2) := HW.out.trans (HR.out.mono HW.out.size)
        clear HR
        go_wp2
        go_ret
        exact ⟨ret_bool HV.out.symm, HWn.out⟩
    · obtain rfl : k = m.length := by omega
      have HV : Hid (decide (m = m2) = true) := by show _ = _; rw [decide_eq_true_eq]; exact HT.out.all HN.out
      go_wp2
      go_ret
      exact ⟨ret_bool HV.out.symm, HW.out⟩

set_option maxRecDepth 100000 in
set_option maxHeartbeats 4000000 in
theorem equalFunc_any (m m2 : List (List Int)) (A B : Option Addr) (c d : Nat) (w : World) (hl : m.length ≤ 1048576) (hx : ∀ xs ∈ m, xs.length ≤ 1048576) (hl2 : m2.length ≤ 1048576) (hx2 : ∀ xs ∈ m2, xs.length ≤ 1048576) (hA : RdN w w.heap.size icells A m) (hB : RdN w w.heap.size icells B m2) :
    Calls Try.prog 12 #[.slice A m.length c, .slice B m2.length d, .func (.func 13) #[] #[]] w fun e w' => e = .returned (.bool (decide (m = m2))) ∧ Below w.heap.size w w' := by
  have HA := Lib.hid hA
  have HB := Lib.hid hB
  have HX := Lib.hid hx
  have HX2 := Lib.hid hx2
  clear hA hB hx hx2
  by_cases hne : (m.length : Int) = m2.length
  rotate_left
  · have hne' : ((m.length : Int) == (m2.length : Int)) = false := by simpa using hne
    have HV : Hid (decide (m = m2) = false) := by show _ = _; rw [decide_eq_false_iff_not]; exact sm_len (by omega)
    go_enter Try.func12, Try.ntmps12
    go_wp2
    go_ret
    exact ⟨ret_bool HV.out.symm, Below.refl _ _⟩
  have hne' : ((m.length : Int) != (m2.length : Int)) = false := by simpa using hne
  have HN : Hid (m.length = m2.length) := by show _ = _; omega
  clear hne
  go_enter Try.func12, Try.ntmps12
  go_wp2_with fail
  go_loopw [17] (fun i wr => ∃ (k : Nat), k ≤ m.length ∧ i = .int .i64 k ∧ SmTo m m2 k ∧ Below w.heap.size w wr) (fun i _ => m.length - (intOf i).toNat)
  case atStart => exact ⟨0, by omega, rfl, SmTo.zero _ _, Below.refl _ _⟩
  case round =>
    obtain ⟨k, hk, rfl, hT, hw⟩ := hrel
    have HT := Lib.hid hT
    have HW := Lib.hid hw
    clear hT hw
    by_cases hlt : k < m.length
    · obtain ⟨xs, hxs⟩ : ∃ x, m[k]? = some x := ⟨_, List.getElem?_eq_getElem hlt⟩
      obtain ⟨ys, hys⟩ : ∃ y, m2[k]? = some y := ⟨_, List.getElem?_eq_getElem (by have := HN.out; omega)⟩
      obtain ⟨b, o, a, c1, rfl, hb1, e1, r1⟩ := (HA.out.keep HW.out).at_ hxs
      obtain ⟨b', o', a', c2, rfl, hb2, e2, r2⟩ := (HB.out.keep HW.out).at_ hys
      have hxl := HX.out xs (List.mem_of_getElem? hxs)
      have hyl := HX2.out ys (List.mem_of_getElem? hys)
      have HXs := Lib.hid hxs
      have HYs := Lib.hid hys
      have R1 := Lib.hid r1
      have R2 := Lib.hid r2
      have hk0 : (0 : Int) ≤ (k : Int) := Int.natCast_nonneg _
      have hk8 : (k : Int) < m.length := by omega
      have hk9 : (k : Int) < m2.length := by have := HN.out; omega
      have hs0 : Below wr.heap.size wr wr := Below.refl _ _
      clear hxs hys r1 r2
      have HC : Hid (∀ w', Rd w' w'.heap.size icells a xs → Rd w' w'.heap.size icells a' ys → Calls Try.prog 13 #[.slice a xs.length c1, .slice a' ys.length c2] w' fun e w'' => e = .returned (.bool (decide (xs = ys))) ∧ Below w'.heap.size w' w'') := fun w' h1 h2 => sliceEqual_any xs ys a a' c1 c2 w' hxl hyl h1 h2
      by_cases he : xs = ys
      · have he' : decide (xs = ys) = true := by simpa using he
        have HE := Lib.hid he
        rw [he'] at HC
        clear he he'
        go_wp2_with fail
        refine (HC.out _ R1.out R2.out).mono ?_
        rintro e w2 ⟨rfl, hb⟩
        have HR := Lib.hid hb
        clear hb hs0
        have HWn : Hid (Below w.heap.size w w2) := HW.out.trans (HR.out.mono HW.out.size)
        clear HR
        go_wp2
        go_roundw
        case rel => exact ⟨k + 1, by omega, by go_num, HT.out.step HXs.out HYs.out HE.out, HWn.out⟩
        case measure => simp [intOf]; omega
      · have he' : decide (xs = ys) = false := by simpa using he
        have HV : Hid (decide (m = m2) = false) := by show _ = _; rw [decide_eq_false_iff_not]; exact sm_no HXs.out HYs.out he
        rw [he'] at HC
        clear he he'
        go_wp2_with fail
        refine (HC.out _ R1.out R2.out).mono ?_
        rintro e w2 ⟨rfl, hb⟩
        have HR := Lib.hid hb
        clear hb hs0
        have HWn : Hid (Below w.heap.size w w2) := HW.out.trans (HR.out.mono HW.out.size)
        clear HR
        go_wp2
        go_ret
        exact ⟨ret_bool HV.out.symm, HWn.out⟩
    · obtain rfl : k = m.length := by omega
      have HV : Hid (decide (m = m2) = true) := by show _ = _; rw [decide_eq_true_eq]; exact HT.out.all HN.out
      go_wp2
      go_ret
      exact ⟨ret_bool HV.out.symm, HW.out⟩
theorem specSameMarks_any (m m2 : List (List Int)) (A B : Option Addr) (c d : Nat) (w : World) (hl : m.length ≤ 1048576) (hx : ∀ xs ∈ m, xs.length ≤ 1048576) (hl2 : m2.length ≤ 1048576) (hx2 : ∀ xs ∈ m2, xs.length ≤ 1048576) (hA : RdN w w.heap.size icells A m) (hB : RdN w w.heap.size icells B m2) :
    Calls Try.prog 5 #[.slice A m.length c, .slice B m2.length d] w fun e w' => e = .returned (.bool (decide (m = m2))) ∧ Below w.heap.size w w' := by
  have HC := Lib.hid (l07Same_any m m2 A B c d w hl hx hl2 hx2 hA hB)
  clear hA hB hx hx2
  go_enter Try.func5, Try.ntmps5
  go_wp2_with fail
  refine HC.out.mono ?_
  rintro e w1 ⟨rfl, hb⟩
  have HB1 := Lib.hid hb
  clear hb HC
  go_wp2
  go_ret
  exact ⟨rfl, HB1.out⟩
theorem implSameMarks_any (m m2 : List (List Int)) (A B : Option Addr) (c d : Nat) (w : World) (hl : m.length ≤ 1048576) (hx : ∀ xs ∈ m, xs.length ≤ 1048576) (hl2 : m2.length ≤ 1048576) (hx2 : ∀ xs ∈ m2, xs.length ≤ 1048576) (hA : RdN w w.heap.size icells A m) (hB : RdN w w.heap.size icells B m2) :
    Calls Try.prog 7 #[.slice A m.length c, .slice B m2.length d] w fun e w' => e = .returned (.bool (decide (m = m2))) ∧ Below w.heap.size w w' := by
  have HC := Lib.hid (equalFunc_any m m2 A B c d w hl hx hl2 hx2 hA hB)
  clear hA hB hx hx2
  go_enter Try.func7, Try.ntmps7
  go_wp2_with fail
  refine HC.out.mono ?_
  rintro e w1 ⟨rfl, hb⟩
  have HB1 := Lib.hid hb
  clear hb HC
  go_wp2
  go_ret
  exact ⟨rfl, HB1.out⟩
end Go.Proofs.Ytajnkkiabjiplaa
