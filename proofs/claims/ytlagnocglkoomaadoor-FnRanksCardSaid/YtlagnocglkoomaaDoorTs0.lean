/-
  Lists of numbers compared: the contracts of l00Same and slices.Equal. No condition.
-/
import Derived.Test.YtlagnocglkoomaaDoorLi
namespace Go.Proofs.YtlagnocglkoomaaDoor
open Go.ChangeShapes Go.WideShapes Go.ChangeAt Go.RowKit Go.Deep

def SmTo {T : Type} (xs ys : List T) (k : Nat) : Prop := ∀ j : Nat, j < k → xs[j]? = ys[j]?
theorem SmTo.zero {T : Type} (xs ys : List T) : SmTo xs ys 0 := fun j h => absurd h (Nat.not_lt_zero _)
theorem SmTo.step {T : Type} {xs ys : List T} {k : Nat} (h : SmTo xs ys k) {x y : T} (hx : xs[k]? = some x) (hy : ys[k]? = some y) (e : x = y) : SmTo xs ys (k + 1) := fun j hj => by
  by_cases ej : j = k
  · subst ej; rw [hx, hy, e]
  · exact h j (by omega)
theorem SmTo.all {T : Type} {xs ys : List T} (h : SmTo xs ys xs.length) (hl : xs.length = ys.length) : xs = ys := by
  apply List.ext_getElem?
  intro j
  by_cases hj : j < xs.length
  · exact h j hj
  · rw [List.getElem?_eq_none (by omega), List.getElem?_eq_none (by omega)]
theorem sm_no {T : Type} {xs ys : List T} {k : Nat} {x y : T} (hx : xs[k]? = some x) (hy : ys[k]? = some y) (e : x ≠ y) : xs ≠ ys := fun h => by
  subst h; exact e (Option.some.inj (hx.symm.trans hy))
theorem sm_len {T : Type} {xs ys : List T} (h : xs.length ≠ ys.length) : xs ≠ ys := fun e => h (by rw [e])

set_option maxRecDepth 100000 in
set_option maxHeartbeats 2000000 in
theorem l00Same_any (xs ys : List Int) (A B : Option Addr) (c d : Nat) (w : World) (hl : xs.length ≤ 1048576) (hl2 : ys.length ≤ 1048576) (hA : Rd w w.heap.size icells A xs) (hB : Rd w w.heap.size icells B ys) :
    Calls Tryd.prog 34 #[.slice A xs.length c, .slice B ys.length d] w fun e w' => e = .returned (.bool (decide (xs = ys))) ∧ Below w.heap.size w w' := by
  have HA := Lib.hid hA
  have HB := Lib.hid hB
  clear hA hB
  by_cases hne : (xs.length : Int) = ys.length
  rotate_left
  · have hne' : ((xs.length : Int) == (ys.length : Int)) = false := by simpa using hne
    have HV : Hid (decide (xs = ys) = false) := by show _ = _; rw [decide_eq_false_iff_not]; exact sm_len (by omega)
    go_enter Tryd.func34, Tryd.ntmps34
    go_wp2
    go_ret
    exact ⟨ret_bool HV.out.symm, Below.refl _ _⟩
  have hne' : ((xs.length : Int) == (ys.length : Int)) = true := by simpa using hne
  have HN : Hid (xs.length = ys.length) := by show _ = _; omega
  clear hne
  go_enter Tryd.func34, Tryd.ntmps34
  go_wp2_with fail
  go_loopw [5] (fun i wr => ∃ (k : Nat), k ≤ xs.length ∧ i = .int .i64 k ∧ SmTo xs ys k ∧ Below w.heap.size w wr) (fun i _ => xs.length - (intOf i).toNat)
  case atStart => exact ⟨0, by omega, rfl, SmTo.zero _ _, Below.refl _ _⟩
  case round =>
    obtain ⟨k, hk, rfl, hT, hw⟩ := hrel
    have HT := Lib.hid hT
    have HW := Lib.hid hw
    clear hT hw
    by_cases hlt : k < xs.length
    · obtain ⟨x, hx⟩ : ∃ x, xs[k]? = some x := ⟨_, List.getElem?_eq_getElem hlt⟩
      obtain ⟨y, hy⟩ : ∃ y, ys[k]? = some y := ⟨_, List.getElem?_eq_getElem (by have := HN.out; omega)⟩
      obtain ⟨g, o, rfl, hg, hc⟩ := (HA.out.below (Nat.le_refl _) HW.out).at_ icells_length hx
      obtain ⟨g', o', rfl, hg', hc'⟩ := (HB.out.below (Nat.le_refl _) HW.out).at_ icells_length hy
      have e1 := rowI hc
      have e2 := rowI hc'
      have HX := Lib.hid hx
      have HY := Lib.hid hy
      have hk0 : (0 : Int) ≤ (k : Int) := Int.natCast_nonneg _
      have hk8 : (k : Int) < xs.length := by omega
      have hk9 : (k : Int) < ys.length := by have := HN.out; omega
      clear hx hy hc hc'
      by_cases he : x = y
      · have he' : (x == y) = true := by simpa using he
        have HE := Lib.hid he
        clear he
        go_wp2_with fail
        go_region_held3 (fun w' => w'.cell? ⟨g, o + k, none⟩ = some (.int .i64 x) ∧ w'.cell? ⟨g', o' + k, none⟩ = some (.int .i64 y)) (go_keep) (fail)
        go_wp2
        go_roundw
        case rel => exact ⟨k + 1, by omega, by go_num, HT.out.step HX.out HY.out HE.out, HW.out.drew⟩
        case measure => simp [intOf]; omega
      · have he' : (x == y) = false := by simpa using he
        have HV : Hid (decide (xs = ys) = false) := by show _ = _; rw [decide_eq_false_iff_not]; exact sm_no HX.out HY.out he
        clear he
        go_wp2_with fail
        go_region_held3 (fun w' => w'.cell? ⟨g, o + k, none⟩ = some (.int .i64 x) ∧ w'.cell? ⟨g', o' + k, none⟩ = some (.int .i64 y)) (go_keep) (fail)
        go_wp2
        go_ret
        exact ⟨ret_bool HV.out.symm, HW.out.drew⟩
    · obtain rfl : k = xs.length := by omega
      have HV : Hid (decide (xs = ys) = true) := by show _ = _; rw [decide_eq_true_eq]; exact HT.out.all HN.out
      go_wp2
      go_ret
      exact ⟨ret_bool HV.out.symm, HW.out⟩

set_option maxRecDepth 100000 in
set_option maxHeartbeats 2000000 in
theorem sliceEqual_any (xs ys : List Int) (A B : Option Addr) (c d : Nat) (w : World) (hl : xs.length ≤ 1048576) (hl2 : ys.length ≤ 1048576) (hA : Rd w w.heap.size icells A xs) (hB : Rd w w.heap.size icells B ys) :
    Calls Tryd.prog 36 #[.slice A xs.length c, .slice B ys.length d] w fun e w' => e = .returned (.bool (decide (xs = ys))) ∧ Below w.heap.size w w' := by
  have HA := Lib.hid hA
  have HB := Lib.hid hB
  clear hA hB
  by_cases hne : (xs.length : Int) = ys.length
  rotate_left
  · have hne' : ((xs.length : Int) == (ys.length : Int)) = false := by simpa using hne
    have HV : Hid (decide (xs = ys) = false) := by show _ = _; rw [decide_eq_false_iff_not]; exact sm_len (by omega)
    go_enter Tryd.func36, Tryd.ntmps36
    go_wp2
    go_ret
    exact ⟨ret_bool HV.out.symm, Below.refl _ _⟩
  have hne' : ((xs.length : Int) == (ys.length : Int)) = true := by simpa using hne
  have HN : Hid (xs.length = ys.length) := by show _ = _; omega
  clear hne
  go_enter Tryd.func36, Tryd.ntmps36
  go_wp2_with fail
  go_loopw [13] (fun i wr => ∃ (k : Nat), k ≤ xs.length ∧ i = .int .i64 k ∧ SmTo xs ys k ∧ Below w.heap.size w wr) (fun i _ => xs.length - (intOf i).toNat)
  case atStart => exact ⟨0, by omega, rfl, SmTo.zero _ _, Below.refl _ _⟩
  case round =>
    obtain ⟨k, hk, rfl, hT, hw⟩ := hrel
    have HT := Lib.hid hT
    have HW := Lib.hid hw
    clear hT hw
    by_cases hlt : k < xs.length
    · obtain ⟨x, hx⟩ : ∃ x, xs[k]? = some x := ⟨_, List.getElem?_eq_getElem hlt⟩
      obtain ⟨y, hy⟩ : ∃ y, ys[k]? = some y := ⟨_, List.getElem?_eq_getElem (by have := HN.out; omega)⟩
      obtain ⟨g, o, rfl, hg, hc⟩ := (HA.out.below (Nat.le_refl _) HW.out).at_ icells_length hx
      obtain ⟨g', o', rfl, hg', hc'⟩ := (HB.out.below (Nat.le_refl _) HW.out).at_ icells_length hy
      have e1 := rowI hc
      have e2 := rowI hc'
      have HX := Lib.hid hx
      have HY := Lib.hid hy
      have hk0 : (0 : Int) ≤ (k : Int) := Int.natCast_nonneg _
      have hk8 : (k : Int) < xs.length := by omega
      have hk9 : (k : Int) < ys.length := by have := HN.out; omega
      clear hx hy hc hc'
      by_cases he : x = y
      · have he' : (x == y) = true := by simpa using he
        have HE := Lib.hid he
        clear he
        go_wp2_with fail
        go_region_held3 (fun w' => w'.cell? ⟨g, o + k, none⟩ = some (.int .i64 x) ∧ w'.cell? ⟨g', o' + k, none⟩ = some (.int .i64 y)) (go_keep) (fail)
        go_wp2
        go_roundw
        case rel => exact ⟨k + 1, by omega, by go_num, HT.out.step HX.out HY.out HE.out, HW.out.drew⟩
        case measure => simp [intOf]; omega
      · have he' : (x == y) = false := by simpa using he
        have HV : Hid (decide (xs = ys) = false) := by show _ = _; rw [decide_eq_false_iff_not]; exact sm_no HX.out HY.out he
        clear he
        go_wp2_with fail
        go_region_held3 (fun w' => w'.cell? ⟨g, o + k, none⟩ = some (.int .i64 x) ∧ w'.cell? ⟨g', o' + k, none⟩ = some (.int .i64 y)) (go_keep) (fail)
        go_wp2
        go_ret
        exact ⟨ret_bool HV.out.symm, HW.out.drew⟩
    · obtain rfl : k = xs.length := by omega
      have HV : Hid (decide (xs = ys) = true) := by show _ = _; rw [decide_eq_true_eq]; exact HT.out.all HN.out
      go_wp2
      go_ret
      exact ⟨ret_bool HV.out.symm, HW.out⟩

end Go.Proofs.YtlagnocglkoomaaDoor
