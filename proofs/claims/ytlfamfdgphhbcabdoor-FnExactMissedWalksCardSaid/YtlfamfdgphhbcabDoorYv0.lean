/-
  The contracts of ValidRow, of the model and of the program, and of what they call; isWithin. Condition: the row reads as numbers of eight bits.
-/
import Derived.Test.YtlfamfdgphhbcabDoorYr
namespace Go.Proofs.YtlfamfdgphhbcabDoor
open Go.ChangeShapes Go.WideShapes Go.ChangeAt Go.RowKit Go.Deep

def AllTo {T : Type} (p : T → Bool) (xs : List T) (k : Nat) : Prop := ∀ (j : Nat) (x : T), j < k → xs[j]? = some x → p x = true
theorem AllTo.zero {T : Type} (p : T → Bool) (xs : List T) : AllTo p xs 0 := fun j x h => absurd h (Nat.not_lt_zero _)
theorem AllTo.step {T : Type} {p : T → Bool} {xs : List T} {k : Nat} (h : AllTo p xs k) {x : T} (hx : xs[k]? = some x) (hp : p x = true) : AllTo p xs (k + 1) := fun j y hj hy => by
  by_cases e : j = k
  · subst e
    obtain rfl := Option.some.inj (hx.symm.trans hy)
    exact hp
  · exact h j y (by omega) hy
theorem AllTo.all {T : Type} {p : T → Bool} {xs : List T} (h : AllTo p xs xs.length) : xs.all p = true := by
  rw [List.all_eq_true]
  intro x hx
  obtain ⟨i, hi, rfl⟩ := List.mem_iff_getElem.1 hx
  exact h i _ hi (List.getElem?_eq_getElem hi)
theorem all_no {T : Type} {p : T → Bool} {xs : List T} {k : Nat} {x : T} (hx : xs[k]? = some x) (hp : p x = false) : xs.all p = false := by
  rw [List.all_eq_false]
  exact ⟨x, List.mem_of_getElem? hx, by simp [hp]⟩
theorem yOk_no {r : List Int} {k : Nat} {x : Int} (hx : r[k]? = some x) (hp : 7 < x) : yOk r = false := by
  rw [yOk, all_no hx (by simp; omega)]; rfl
theorem yOk_fine {r : List Int} (h : r.all (fun x => decide (x ≤ 7)) = true) : yOk r = (decide (1 ≤ (r.length : Int)) && decide ((r.length : Int) ≤ 60)) := by
  rw [yOk, h, Bool.true_and]
  congr 1 <;> rw [decide_eq_decide] <;> omega

set_option maxHeartbeats 1000000 in
theorem l05Ok_any (r : List Int) (A : Option Addr) (c : Nat) (w : World) (hl : r.length ≤ 1048576) (hr : Rd w w.heap.size ycells A r) :
    Calls Tryd.prog 40 #[.slice A r.length c] w fun e w' => e = .returned (.bool (yOk r)) ∧ w = w' := by
  have HR := Lib.hid hr
  clear hr
  have hn0 : (0 : Int) ≤ (r.length : Int) := Int.natCast_nonneg _
  go_enter Tryd.func40, Tryd.ntmps40
  go_wp2_with fail
  go_loop [3] (fun i => ∃ (k : Nat), k ≤ r.length ∧ i = .int .i64 k ∧ AllTo (fun x => decide (x ≤ 7)) r k) (fun i => r.length - (intOf i).toNat)
  case atStart => exact ⟨0, by omega, rfl, AllTo.zero _ _⟩
  case round =>
    obtain ⟨k, hk, rfl, hT⟩ := hrel
    have HT := Lib.hid hT
    clear hT
    by_cases hlt : k < r.length
    · obtain ⟨x, hx⟩ : ∃ x, r[k]? = some x := ⟨_, List.getElem?_eq_getElem hlt⟩
      obtain ⟨b, o, rfl, hbl, hrow⟩ := HR.out.at_ ycells_length hx
      have e1 := rowY hrow
      have HX := Lib.hid hx
      have hk0 : (0 : Int) ≤ (k : Int) := Int.natCast_nonneg _
      have hk8 : (k : Int) < r.length := by omega
      clear hx hrow
      by_cases h7 : 7 < x
      · go_wp2
        go_ret
        exact ⟨ret_bool (yOk_no HX.out h7).symm, rfl⟩
      · have h7' : x ≤ 7 := by omega
        go_wp2
        go_round
        case rel => exact ⟨k + 1, by omega, by go_num, HT.out.step HX.out (by simpa using h7')⟩
        case measure => simp [intOf]; omega
    · obtain rfl : k = r.length := by omega
      go_wp2_with fail
      refine (l00In_any _ _ _ _).mono ?_
      rintro e w1 ⟨rfl, rfl⟩
      go_wp2
      go_ret
      exact ⟨ret_bool (yOk_fine HT.out.all).symm, rfl⟩
set_option maxHeartbeats 1000000 in
theorem maxRow_any (r : List Int) (A : Option Addr) (c : Nat) (w : World) (h1 : 1 ≤ r.length) (hl : r.length ≤ 1048576) (hr : Rd w w.heap.size ycells A r) :
    Calls Tryd.prog 103 #[.slice A r.length c] w fun e w' => e = .returned (.int .u8 (maxTo r r.length)) ∧ Below w.heap.size w w' := by
  have HR := Lib.hid hr
  clear hr
  have hn0 : (1 : Int) ≤ (r.length : Int) := by omega
  obtain ⟨x0, hx0⟩ : ∃ x, r[0]? = some x := ⟨_, List.getElem?_eq_getElem (by omega)⟩
  obtain ⟨b, o, rfl, hbl, hrow⟩ := HR.out.at_ ycells_length hx0
  have e0 := rowY hrow
  rw [Nat.add_zero] at e0
  have HX0 := Lib.hid hx0
  clear hx0 hrow
  go_enter Tryd.func103, Tryd.ntmps103
  go_wp2_with fail
  go_loopw [3, 4] (fun m i wr => ∃ (k : Nat), 1 ≤ k ∧ k ≤ r.length ∧ i = .int .i64 k ∧ m = .int .u8 (maxTo r k) ∧ Below w.heap.size w wr) (fun _ i _ => r.length - (intOf i).toNat)
  case atStart => exact ⟨1, by omega, h1, rfl, by simp [maxTo, List.getD_eq_getElem?_getD, HX0.out], (by repeat (first | exact Below.refl _ _ | refine Below.drew ?_ | refine Below.alloc ?_ (by simp <;> omega) _ | refine Below.setCell ?_ (by simp <;> omega) _))⟩
  case round =>
    obtain ⟨k, hk1, hk, rfl, rfl, hb⟩ := hrel
    have HB := Lib.hid hb
    clear hb
    by_cases hlt : k < r.length
    · obtain ⟨x, hx⟩ : ∃ x, r[k]? = some x := ⟨_, List.getElem?_eq_getElem hlt⟩
      obtain ⟨b', o', eA, hbl', hrow⟩ := (HR.out.keep HB.out).at_ ycells_length hx
      cases eA
      have e1 := rowY hrow
      have HM : Hid (maxTo r (k + 1) = if maxTo r k < x then x else maxTo r k) := by show maxTo r (k + 1) = _; rw [maxTo, List.getD_eq_getElem?_getD, hx, Option.getD_some, Int.max_def]; split <;> split <;> omega
      have hk0 : (0 : Int) ≤ (k : Int) := Int.natCast_nonneg _
      have hk8 : (k : Int) < r.length := by omega
      obtain ⟨m, hm⟩ : ∃ m, maxTo r k = m := ⟨_, rfl⟩
      rw [hm] at HM ⊢
      clear hx hrow hm
      go_wp2
      go_roundw
      case rel => exact ⟨k + 1, by omega, by omega, by go_num, by rw [HM.out], HB.out⟩
      case measure => simp [intOf]; omega
    · obtain rfl : k = r.length := by omega
      go_wp2
      go_ret
      exact ⟨rfl, HB.out⟩
set_option maxHeartbeats 1000000 in
theorem isValidR_any (r : List Int) (A : Option Addr) (c : Nat) (w : World) (hl : r.length ≤ 1048576) (hr : Rd w w.heap.size ycells A r) :
    Calls Tryd.prog 78 #[.slice A r.length c] w fun e w' => e = .returned (.bool (yOk r)) ∧ Below w.heap.size w w' := by
  have HR := Lib.hid hr
  clear hr
  have hn0 : (0 : Int) ≤ (r.length : Int) := Int.natCast_nonneg _
  by_cases h1 : 1 ≤ r.length
  · by_cases h60 : r.length ≤ 60
    · have h1' : (1 : Int) ≤ r.length := by omega
      have h60' : (r.length : Int) ≤ 60 := by omega
      go_enter Tryd.func78, Tryd.ntmps78
      go_wp2_with fail
      refine (maxRow_any r A c w h1 hl HR.out).mono ?_
      rintro e w1 ⟨rfl, hb⟩
      have HB := Lib.hid hb
      have HM := Lib.hid (maxTo_all (r := r) (by omega) 7)
      obtain ⟨m, hm⟩ : ∃ m, maxTo r r.length = m := ⟨_, rfl⟩
      rw [hm] at HM ⊢
      clear hb hm
      go_wp2
      go_ret
      refine ⟨ret_bool ?_, HB.out⟩
      rw [yOk, ← HM.out]
      simp only [h1, h60, decide_true, Bool.and_true]
      rw [decide_eq_decide]; omega
    · have h60' : (60 : Int) < r.length := by omega
      have h1' : (1 : Int) ≤ r.length := by omega
      go_enter Tryd.func78, Tryd.ntmps78
      go_wp2
      go_ret
      exact ⟨ret_bool (by simp [yOk, h60]), (by repeat (first | exact Below.refl _ _ | refine Below.drew ?_ | refine Below.alloc ?_ (by simp <;> omega) _ | refine Below.setCell ?_ (by simp <;> omega) _))⟩
  · have h1' : (r.length : Int) < 1 := by omega
    go_enter Tryd.func78, Tryd.ntmps78
    go_wp2
    go_ret
    exact ⟨ret_bool (by simp [yOk, h1]), (by repeat (first | exact Below.refl _ _ | refine Below.drew ?_ | refine Below.alloc ?_ (by simp <;> omega) _ | refine Below.setCell ?_ (by simp <;> omega) _))⟩
theorem isWithin_any (n lo hi : Int) (w : World) : Calls Tryd.prog 79 #[.int .i64 n, .int .i64 lo, .int .i64 hi] w fun e w' => e = .returned (.bool (decide (lo ≤ n) && decide (n ≤ hi))) ∧ w = w' := by
  go_enter Tryd.func79, Tryd.ntmps79
  go_wp2
  all_goals (go_ret; exact ⟨ret_bool (by simp [*] <;> omega), rfl⟩)
end Go.Proofs.YtlfamfdgphhbcabDoor
