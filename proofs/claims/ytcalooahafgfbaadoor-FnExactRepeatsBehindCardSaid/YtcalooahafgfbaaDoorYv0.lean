/-
  The contracts of ValidRow, of the model and of the program, and of what they call; isWithin. Condition: the row reads as numbers of eight bits.
-/
import Derived.Test.YtcalooahafgfbaaDoorYr
namespace Go.Proofs.YtcalooahafgfbaaDoor
open Go.ChangeShapes Go.WideShapes Go.ChangeAt Go.RowKit Go.Deep

def AllTo {T : Type} (p : T → Bool) (xs : List T) (k : Nat) : Prop := ∀ (j : Nat) (x : T), j < k → xs[j]? = some x → p x = true
theorem AllTo.zero {T : Type} (p : T → Bool) (xs : List T) : AllTo p xs 0 := fun j x h => absurd h (Nat.not_lt_zero _)
theorem AllTo.step {T : Type} {p : T → Bool} {xs : List T} {k : Nat} (h : AllTo p xs k) {x : T} (hx : xs[k]? = some x) (hp : p x = true) : AllTo p xs (k + 1) := fun j y hj hy => by
  by_cases e : j = k
  · subst e
    obtain rfl := Option.some.inj (hx.symm.trans hy)
    exact hp
  · exact h j y (by omega) hy
theorem AllTo.all {T : Type} {p : T → Bool} {xs : List T} (h : AllTo p xs xs.length) : xs.all p = true := by
  rw [List.all_eq_true]
  intro x hx
  obtain ⟨i, hi, rfl⟩ := List.mem_iff_getElem.1 hx
  exact h i _ hi (List.getElem?_eq_getElem hi)
theorem all_no {T : Type} {p : T → Bool} {xs : List T} {k : Nat} {x : T} (hx : xs[k]? = some x) (hp : p x = false) : xs.all p = false := by
  rw [List.all_eq_false]
  exact ⟨x, List.mem_of_getElem? hx, by simp [hp]⟩
theorem yOk_no {r : List Int} {k : Nat} {x : Int} (hx : r[k]? = some x) (hp : 7 < x) : yOk r = false := by
  rw [yOk, all_no hx (by simp; omega)]; rfl
theorem yOk_fine {r : List Int} (h : r.all (fun x => decide (x ≤ 7)) = true) : yOk r = (decide (1 ≤ (r.length : Int)) && decide ((r.length : Int) ≤ 60)) := by
  rw [yOk, h, Bool.true_and]
  congr 1 <;> rw [decide_eq_decide] <;> omega

set_option maxHeartbeats 1000000 in
theorem maxRow_any (r : List Int) (A : Option Addr) (c : Nat) (w : World) (h1 : 1 ≤ r.length) (hl : r.length ≤ 1048576) (hr : Rd w w.heap.size ycells A r) :
    Calls Tryd.prog 33 #[.slice A r.length c] w fun e w' => e = .returned (.int .u8 (maxTo r r.length)) ∧ Below w.heap.size w w' := by
  have HR := Lib.hid hr
  clear hr
  have hn0 : (1 : Int) ≤ (r.length : Int) := by omega
  obtain ⟨x0, hx0⟩ : ∃ x, r[0]? = some x := ⟨_, List.getElem?_eq_getElem (by omega)⟩
  obtain ⟨b, o, rfl, hbl, hrow⟩ := HR.out.at_ ycells_length hx0
  have e0 := rowY hrow
  rw [Nat.add_zero] at e0
  have HX0 := Lib.hid hx0
  clear hx0 hrow
  go_enter Tryd.func33, Tryd.ntmps33
  go_wp2_with fail
  go_loopw [3, 4] (fun m i wr => ∃ (k : Nat), 1 ≤ k ∧ k ≤ r.length ∧ i = .int .i64 k ∧ m = .int .u8 (maxTo r k) ∧ Below w.heap.size w wr) (fun _ i _ => r.length - (intOf i).toNat)
  case atStart => exact ⟨1, by omega, h1, rfl, by simp [maxTo, List.getD_eq_getElem?_getD, HX0.out], (by repeat (first | exact Below.refl _ _ | refine Below.drew ?_ | refine Below.alloc ?_ (by simp <;> omega) _ | refine Below.setCell ?_ (by simp <;> omega) _))⟩
  case round =>
    obtain ⟨k, hk1, hk, rfl, rfl, hb⟩ := hrel
    have HB := Lib.hid hb
    clear hb
    by_cases hlt : k < r.length
    · obtain ⟨x, hx⟩ : ∃ x, r[k]? = some x := ⟨_, List.getElem?_eq_getElem hlt⟩
      obtain ⟨b', o', eA, hbl', hrow⟩ := (HR.out.keep HB.out).at_ ycells_length hx
      cases eA
      have e1 := rowY hrow
      have HM : Hid (maxTo r (k + 1) = if maxTo r k < x then x else maxTo r k) := by show maxTo r (k + 1) = _; rw [maxTo, List.getD_eq_getElem?_getD, hx, Option.getD_some, Int.max_def]; split <;> split <;> omega
      have hk0 : (0 : Int) ≤ (k : Int) := Int.natCast_nonneg _
      have hk8 : (k : Int) < r.length := by omega
      obtain ⟨m, hm⟩ : ∃ m, maxTo r k = m := ⟨_, rfl⟩
      rw [hm] at HM ⊢
      clear hx hrow hm
      go_wp2
      go_roundw
      case rel => exact ⟨k + 1, by omega, by omega, by go_num, by rw [HM.out], HB.out⟩
      case measure => simp [intOf]; omega
    · obtain rfl : k = r.length := by omega
      go_wp2
      go_ret
      exact ⟨rfl, HB.out⟩
theorem isWithin_any (n lo hi : Int) (w : World) : Calls Tryd.prog 36 #[.int .i64 n, .int .i64 lo, .int .i64 hi] w fun e w' => e = .returned (.bool (decide (lo ≤ n) && decide (n ≤ hi))) ∧ w = w' := by
  go_enter Tryd.func36, Tryd.ntmps36
  go_wp2
  all_goals (go_ret; exact ⟨ret_bool (by simp [*] <;> omega), rfl⟩)
end Go.Proofs.YtcalooahafgfbaaDoor
