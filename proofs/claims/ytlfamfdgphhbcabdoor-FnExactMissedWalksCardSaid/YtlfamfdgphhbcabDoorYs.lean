/-
  The contracts of SameRow, of the model and of the program. Condition: two rows of at most 1048576 numbers.
-/
import Derived.Test.YtlfamfdgphhbcabDoorYr
namespace Go.Proofs.YtlfamfdgphhbcabDoor
open Go.ChangeShapes Go.WideShapes Go.ChangeAt Go.RowKit Go.Deep

def SameTo {T : Type} (xs ys : List T) (k : Nat) : Prop := ∀ j, j < k → xs[j]? = ys[j]?
theorem SameTo.step {T : Type} {xs ys : List T} {k : Nat} (h : SameTo xs ys k) {x : T} (hx : xs[k]? = some x) (hy : ys[k]? = some x) : SameTo xs ys (k + 1) := by
  intro j hj
  by_cases e : j = k
  · subst e; rw [hx, hy]
  · exact h j (by omega)
theorem SameTo.all {T : Type} {xs ys : List T} (h : SameTo xs ys xs.length) (hl : xs.length = ys.length) : xs = ys := by
  apply List.ext_getElem?
  intro j
  by_cases hj : j < xs.length
  · exact h j hj
  · rw [List.getElem?_eq_none (by omega), List.getElem?_eq_none (by omega)]
theorem same_no {T : Type} {xs ys : List T} {k : Nat} {x y : T} (hx : xs[k]? = some x) (hy : ys[k]? = some y) (hne : x ≠ y) : xs ≠ ys := fun e => by
  subst e; rw [hx] at hy; exact hne (Option.some.inj hy)

set_option maxRecDepth 100000 in
set_option maxHeartbeats 2000000 in
theorem specSameRow_any (xs ys : List Int) (A B : Option Addr) (c d : Nat) (w : World) (hl : xs.length ≤ 1048576) (hl' : ys.length ≤ 1048576) (hA : Rd w w.heap.size ycells A xs) (hB : Rd w w.heap.size ycells B ys) :
    Calls Tryd.prog 44 #[.slice A xs.length c, .slice B ys.length d] w fun e w' => e = .returned (.bool (decide (xs = ys))) ∧ Below w.heap.size w w' := by
  have HA := Lib.hid hA
  have HB := Lib.hid hB
  clear hA hB
  by_cases hne : xs.length = ys.length
  rotate_left
  · have h1 : ((xs.length : Int) == (ys.length : Int)) = false := by simp; omega
    have h2 : xs ≠ ys := fun e => hne (by rw [e])
    have h3 : ¬ ((xs.length : Int) = (ys.length : Int)) := by omega
    go_enter Tryd.func44, Tryd.ntmps44
    go_wp2
    go_ret
    exact ⟨ret_bool (by simp [h2]), Below.refl _ _⟩
  have hni : (xs.length : Int) = (ys.length : Int) := by omega
  go_enter Tryd.func44, Tryd.ntmps44
  go_wp2_with fail
  go_loopw [5] (fun i wr => ∃ (k : Nat), k ≤ xs.length ∧ i = .int .i64 k ∧ SameTo xs ys k ∧ Below w.heap.size w wr)
    (fun i _ => xs.length - (intOf i).toNat)
  case atStart => exact ⟨0, by omega, rfl, fun j h => by omega, Below.refl _ _⟩
  case round =>
    obtain ⟨k, hk, rfl, hT⟩ := hrel
    have HT := Lib.hid hT
    clear hT
    by_cases hlt : k < xs.length
    · obtain ⟨x, hx⟩ : ∃ x, xs[k]? = some x := ⟨_, List.getElem?_eq_getElem hlt⟩
      obtain ⟨y, hy⟩ : ∃ x, ys[k]? = some x := ⟨_, List.getElem?_eq_getElem (by omega)⟩
      obtain ⟨b, o, rfl, hbl, hrow⟩ := (HA.out.below (Nat.le_refl _) HT.out.2).at_ ycells_length hx
      obtain ⟨b', o', rfl, hbl', hrow'⟩ := (HB.out.below (Nat.le_refl _) HT.out.2).at_ ycells_length hy
      have e1 := rowY hrow
      have f1 := rowY hrow'
      have HX := Lib.hid hx
      have HY := Lib.hid hy
      clear hx hy hrow hrow'
      have hk0 : (0 : Int) ≤ (k : Int) := Int.natCast_nonneg _
      have hk8 : (k : Int) < xs.length := by omega
      have hk9 : (k : Int) < ys.length := by omega
      by_cases h1 : x = y
      · subst h1
        go_wp2_with fail
        go_region_held3 (fun w' => w'.cell? ⟨b, o + k, none⟩ = some (.int .u8 x) ∧ w'.cell? ⟨b', o' + k, none⟩ = some (.int .u8 x)) (go_keep) (fail)
        go_wp2
        go_roundw
        case rel => exact ⟨k + 1, by omega, by go_num, HT.out.1.step HX.out HY.out, HT.out.2.drew⟩
        case measure => simp [intOf]; omega
      · have g1 : (x == y) = false := by simpa using h1
        go_wp2_with fail
        go_region_held3 (fun w' => w'.cell? ⟨b, o + k, none⟩ = some (.int .u8 x) ∧ w'.cell? ⟨b', o' + k, none⟩ = some (.int .u8 y)) (go_keep) (fail)
        go_wp2
        go_ret
        exact ⟨ret_bool (by simp; exact same_no HX.out HY.out (by simp [*])), HT.out.2.drew⟩
    · obtain rfl : k = xs.length := by omega
      go_wp2
      go_ret
      exact ⟨ret_bool (by simp [HT.out.1.all hne]), HT.out.2⟩

set_option maxRecDepth 100000 in
set_option maxHeartbeats 2000000 in
theorem equalY_any (xs ys : List Int) (A B : Option Addr) (c d : Nat) (w : World) (hl : xs.length ≤ 1048576) (hl' : ys.length ≤ 1048576) (hA : Rd w w.heap.size ycells A xs) (hB : Rd w w.heap.size ycells B ys) :
    Calls Tryd.prog 105 #[.slice A xs.length c, .slice B ys.length d] w fun e w' => e = .returned (.bool (decide (xs = ys))) ∧ Below w.heap.size w w' := by
  have HA := Lib.hid hA
  have HB := Lib.hid hB
  clear hA hB
  by_cases hne : xs.length = ys.length
  rotate_left
  · have h1 : ((xs.length : Int) == (ys.length : Int)) = false := by simp; omega
    have h2 : xs ≠ ys := fun e => hne (by rw [e])
    have h3 : ¬ ((xs.length : Int) = (ys.length : Int)) := by omega
    go_enter Tryd.func105, Tryd.ntmps105
    go_wp2
    go_ret
    exact ⟨ret_bool (by simp [h2]), Below.refl _ _⟩
  have hni : (xs.length : Int) = (ys.length : Int) := by omega
  go_enter Tryd.func105, Tryd.ntmps105
  go_wp2_with fail
  go_loopw [13] (fun i wr => ∃ (k : Nat), k ≤ xs.length ∧ i = .int .i64 k ∧ SameTo xs ys k ∧ Below w.heap.size w wr)
    (fun i _ => xs.length - (intOf i).toNat)
  case atStart => exact ⟨0, by omega, rfl, fun j h => by omega, Below.refl _ _⟩
  case round =>
    obtain ⟨k, hk, rfl, hT⟩ := hrel
    have HT := Lib.hid hT
    clear hT
    by_cases hlt : k < xs.length
    · obtain ⟨x, hx⟩ : ∃ x, xs[k]? = some x := ⟨_, List.getElem?_eq_getElem hlt⟩
      obtain ⟨y, hy⟩ : ∃ x, ys[k]? = some x := ⟨_, List.getElem?_eq_getElem (by omega)⟩
      obtain ⟨b, o, rfl, hbl, hrow⟩ := (HA.out.below (Nat.le_refl _) HT.out.2).at_ ycells_length hx
      obtain ⟨b', o', rfl, hbl', hrow'⟩ := (HB.out.below (Nat.le_refl _) HT.out.2).at_ ycells_length hy
      have e1 := rowY hrow
      have f1 := rowY hrow'
      have HX := Lib.hid hx
      have HY := Lib.hid hy
      clear hx hy hrow hrow'
      have hk0 : (0 : Int) ≤ (k : Int) := Int.natCast_nonneg _
      have hk8 : (k : Int) < xs.length := by omega
      have hk9 : (k : Int) < ys.length := by omega
      by_cases h1 : x = y
      · subst h1
        go_wp2_with fail
        go_region_held3 (fun w' => w'.cell? ⟨b, o + k, none⟩ = some (.int .u8 x) ∧ w'.cell? ⟨b', o' + k, none⟩ = some (.int .u8 x)) (go_keep) (fail)
        go_wp2
        go_roundw
        case rel => exact ⟨k + 1, by omega, by go_num, HT.out.1.step HX.out HY.out, HT.out.2.drew⟩
        case measure => simp [intOf]; omega
      · have g1 : (x == y) = false := by simpa using h1
        go_wp2_with fail
        go_region_held3 (fun w' => w'.cell? ⟨b, o + k, none⟩ = some (.int .u8 x) ∧ w'.cell? ⟨b', o' + k, none⟩ = some (.int .u8 y)) (go_keep) (fail)
        go_wp2
        go_ret
        exact ⟨ret_bool (by simp; exact same_no HX.out HY.out (by simp [*])), HT.out.2.drew⟩
    · obtain rfl : k = xs.length := by omega
      go_wp2
      go_ret
      exact ⟨ret_bool (by simp [HT.out.1.all hne]), HT.out.2⟩

theorem implSameRow_any (xs ys : List Int) (A B : Option Addr) (c d : Nat) (w : World) (hl : xs.length ≤ 1048576) (hl' : ys.length ≤ 1048576) (hA : Rd w w.heap.size ycells A xs) (hB : Rd w w.heap.size ycells B ys) :
    Calls Tryd.prog 83 #[.slice A xs.length c, .slice B ys.length d] w fun e w' => e = .returned (.bool (decide (xs = ys))) ∧ Below w.heap.size w w' := by
  have HA := Lib.hid hA
  have HB := Lib.hid hB
  clear hA hB
  go_enter Tryd.func83, Tryd.ntmps83
  go_wp2_with fail
  refine (equalY_any xs ys A B c d w hl hl' HA.out HB.out).mono ?_
  rintro e w1 ⟨rfl, hb⟩
  obtain ⟨v, hv⟩ : ∃ v, decide (xs = ys) = v := ⟨_, rfl⟩
  have HV := Lib.hid hv
  have HB1 := Lib.hid hb
  rw [hv]
  clear hb hv
  go_wp2
  go_ret
  exact ⟨by (rw [HV.out]; first | done | rfl), HB1.out⟩
end Go.Proofs.YtlfamfdgphhbcabDoor
