/-
  The contracts of ValidRow and ValidWalkers, of the model and of the program, and of what they call. Condition: the row reads as numbers of eight bits, the walkers' numbers fit their kinds.
-/
import Derived.Test.YtjiihdljchaeiaaYr
import Derived.Test.YtjiihdljchaeiaaWk
namespace Go.Proofs.Ytjiihdljchaeiaa
open Go.ChangeShapes Go.WideShapes Go.ChangeAt Go.RowKit Go.Deep

def AllTo {T : Type} (p : T → Bool) (xs : List T) (k : Nat) : Prop := ∀ (j : Nat) (x : T), j < k → xs[j]? = some x → p x = true
theorem AllTo.zero {T : Type} (p : T → Bool) (xs : List T) : AllTo p xs 0 := fun j x h => absurd h (Nat.not_lt_zero _)
theorem AllTo.step {T : Type} {p : T → Bool} {xs : List T} {k : Nat} (h : AllTo p xs k) {x : T} (hx : xs[k]? = some x) (hp : p x = true) : AllTo p xs (k + 1) := fun j y hj hy => by
  by_cases e : j = k
  · subst e
    obtain rfl := Option.some.inj (hx.symm.trans hy)
    exact hp
  · exact h j y (by omega) hy
theorem AllTo.all {T : Type} {p : T → Bool} {xs : List T} (h : AllTo p xs xs.length) : xs.all p = true := by
  rw [List.all_eq_true]
  intro x hx
  obtain ⟨i, hi, rfl⟩ := List.mem_iff_getElem.1 hx
  exact h i _ hi (List.getElem?_eq_getElem hi)
theorem all_no {T : Type} {p : T → Bool} {xs : List T} {k : Nat} {x : T} (hx : xs[k]? = some x) (hp : p x = false) : xs.all p = false := by
  rw [List.all_eq_false]
  exact ⟨x, List.mem_of_getElem? hx, by simp [hp]⟩
theorem yOk_no {r : List Int} {k : Nat} {x : Int} (hx : r[k]? = some x) (hp : 7 < x) : yOk r = false := by
  rw [yOk, all_no hx (by simp; omega)]; rfl
theorem yOk_fine {r : List Int} (h : r.all (fun x => decide (x ≤ 7)) = true) : yOk r = (decide (1 ≤ (r.length : Int)) && decide ((r.length : Int) ≤ 60)) := by
  rw [yOk, h, Bool.true_and]
  congr 1 <;> rw [decide_eq_decide] <;> omega

set_option maxHeartbeats 1000000 in
theorem l05Ok_any (r : List Int) (A : Option Addr) (c : Nat) (w : World) (hl : r.length ≤ 1048576) (hr : Rd w w.heap.size ycells A r) :
    Calls Try.prog 17 #[.slice A r.length c] w fun e w' => e = .returned (.bool (yOk r)) ∧ w = w' := by
  have HR := Lib.hid hr
  clear hr
  have hn0 : (0 : Int) ≤ (r.length : Int) := Int.natCast_nonneg _
  go_enter Try.func17, Try.ntmps17
  go_wp2_with fail
  go_loop [3] (fun i => ∃ (k : Nat), k ≤ r.length ∧ i = .int .i64 k ∧ AllTo (fun x => decide (x ≤ 7)) r k) (fun i => r.length - (intOf i).toNat)
  case atStart => exact ⟨0, by omega, rfl, AllTo.zero _ _⟩
  case round =>
    obtain ⟨k, hk, rfl, hT⟩ := hrel
    have HT := Lib.hid hT
    clear hT
    by_cases hlt : k < r.length
    · obtain ⟨x, hx⟩ : ∃ x, r[k]? = some x := ⟨_, List.getElem?_eq_getElem hlt⟩
      obtain ⟨b, o, rfl, hbl, hrow⟩ := HR.out.at_ ycells_length hx
      have e1 := rowY hrow
      have HX := Lib.hid hx
      have hk0 : (0 : Int) ≤ (k : Int) := Int.natCast_nonneg _
      have hk8 : (k : Int) < r.length := by omega
      clear hx hrow
      by_cases h7 : 7 < x
      · go_wp2
        go_ret
        exact ⟨ret_bool (yOk_no HX.out h7).symm, rfl⟩
      · have h7' : x ≤ 7 := by omega
        go_wp2
        go_round
        case rel => exact ⟨k + 1, by omega, by go_num, HT.out.step HX.out (by simpa using h7')⟩
        case measure => simp [intOf]; omega
    · obtain rfl : k = r.length := by omega
      go_wp2_with fail
      refine (l00In_any _ _ _ _).mono ?_
      rintro e w1 ⟨rfl, rfl⟩
      go_wp2
      go_ret
      exact ⟨ret_bool (yOk_fine HT.out.all).symm, rfl⟩
theorem specValidRow_any (r : List Int) (A : Option Addr) (c : Nat) (w : World) (hl : r.length ≤ 1048576) (hr : Rd w w.heap.size ycells A r) :
    Calls Try.prog 6 #[.slice A r.length c] w fun e w' => e = .returned (.bool (yOk r)) ∧ Below w.heap.size w w' := by
  have HR := Lib.hid hr
  clear hr
  go_enter Try.func6, Try.ntmps6
  go_wp2_with fail
  refine (l05Ok_any r A c w hl HR.out).mono ?_
  rintro e w1 ⟨rfl, rfl⟩
  go_wp2
  go_ret
  exact ⟨rfl, Below.refl _ _⟩

set_option maxHeartbeats 1000000 in
theorem maxRow_any (r : List Int) (A : Option Addr) (c : Nat) (w : World) (h1 : 1 ≤ r.length) (hl : r.length ≤ 1048576) (hr : Rd w w.heap.size ycells A r) :
    Calls Try.prog 28 #[.slice A r.length c] w fun e w' => e = .returned (.int .u8 (maxTo r r.length)) ∧ Below w.heap.size w w' := by
  have HR := Lib.hid hr
  clear hr
  have hn0 : (1 : Int) ≤ (r.length : Int) := by omega
  obtain ⟨x0, hx0⟩ : ∃ x, r[0]? = some x := ⟨_, List.getElem?_eq_getElem (by omega)⟩
  obtain ⟨b, o, rfl, hbl, hrow⟩ := HR.out.at_ ycells_length hx0
  have e0 := rowY hrow
  rw [Nat.add_zero] at e0
  have HX0 := Lib.hid hx0
  clear hx0 hrow
  go_enter Try.func28, Try.ntmps28
  go_wp2_with fail
  go_loopw [3, 4] (fun m i wr => ∃ (k : Nat), 1 ≤ k ∧ k ≤ r.length ∧ i = .int .i64 k ∧ m = .int .u8 (maxTo r k) ∧ Below w.heap.size w wr) (fun _ i _ => r.length - (intOf i).toNat)
  case atStart => exact ⟨1, by omega, h1, rfl, by simp [maxTo, List.getD_eq_getElem?_getD, HX0.out], (by repeat (first | exact Below.refl _ _ | refine Below.drew ?_ | refine Below.alloc ?_ (by simp <;> omega) _ | refine Below.setCell ?_ (by simp <;> omega) _))⟩
  case round =>
    obtain ⟨k, hk1, hk, rfl, rfl, hb⟩ := hrel
    have HB := Lib.hid hb
    clear hb
    by_cases hlt : k < r.length
    · obtain ⟨x, hx⟩ : ∃ x, r[k]? = some x := ⟨_, List.getElem?_eq_getElem hlt⟩
      obtain ⟨b', o', eA, hbl', hrow⟩ := (HR.out.keep HB.out).at_ ycells_length hx
      cases eA
      have e1 := rowY hrow
      have HM : Hid (maxTo r (k + 1) = if maxTo r k < x then x else maxTo r k) := by show maxTo r (k + 1) = _; rw [maxTo, List.getD_eq_getElem?_getD, hx, Option.getD_some, Int.max_def]; split <;> split <;> omega
      have hk0 : (0 : Int) ≤ (k : Int) := Int.natCast_nonneg _
      have hk8 : (k : Int) < r.length := by omega
      obtain ⟨m, hm⟩ : ∃ m, maxTo r k = m := ⟨_, rfl⟩
      rw [hm] at HM ⊢
      clear hx hrow hm
      go_wp2
      go_roundw
      case rel => exact ⟨k + 1, by omega, by omega, by go_num, by rw [HM.out], HB.out⟩
      case measure => simp [intOf]; omega
    · obtain rfl : k = r.length := by omega
      go_wp2
      go_ret
      exact ⟨rfl, HB.out⟩
set_option maxHeartbeats 1000000 in
theorem isValidR_any (r : List Int) (A : Option Addr) (c : Nat) (w : World) (hl : r.length ≤ 1048576) (hr : Rd w w.heap.size ycells A r) :
    Calls Try.prog 18 #[.slice A r.length c] w fun e w' => e = .returned (.bool (yOk r)) ∧ Below w.heap.size w w' := by
  have HR := Lib.hid hr
  clear hr
  have hn0 : (0 : Int) ≤ (r.length : Int) := Int.natCast_nonneg _
  by_cases h1 : 1 ≤ r.length
  · by_cases h60 : r.length ≤ 60
    · have h1' : (1 : Int) ≤ r.length := by omega
      have h60' : (r.length : Int) ≤ 60 := by omega
      go_enter Try.func18, Try.ntmps18
      go_wp2_with fail
      refine (maxRow_any r A c w h1 hl HR.out).mono ?_
      rintro e w1 ⟨rfl, hb⟩
      have HB := Lib.hid hb
      have HM := Lib.hid (maxTo_all (r := r) (by omega) 7)
      obtain ⟨m, hm⟩ : ∃ m, maxTo r r.length = m := ⟨_, rfl⟩
      rw [hm] at HM ⊢
      clear hb hm
      go_wp2
      go_ret
      refine ⟨ret_bool ?_, HB.out⟩
      rw [yOk, ← HM.out]
      simp only [h1, h60, decide_true, Bool.and_true]
      rw [decide_eq_decide]; omega
    · have h60' : (60 : Int) < r.length := by omega
      have h1' : (1 : Int) ≤ r.length := by omega
      go_enter Try.func18, Try.ntmps18
      go_wp2
      go_ret
      exact ⟨ret_bool (by simp [yOk, h60]), (by repeat (first | exact Below.refl _ _ | refine Below.drew ?_ | refine Below.alloc ?_ (by simp <;> omega) _ | refine Below.setCell ?_ (by simp <;> omega) _))⟩
  · have h1' : (r.length : Int) < 1 := by omega
    go_enter Try.func18, Try.ntmps18
    go_wp2
    go_ret
    exact ⟨ret_bool (by simp [yOk, h1]), (by repeat (first | exact Below.refl _ _ | refine Below.drew ?_ | refine Below.alloc ?_ (by simp <;> omega) _ | refine Below.setCell ?_ (by simp <;> omega) _))⟩
theorem implValidRow_any (r : List Int) (A : Option Addr) (c : Nat) (w : World) (hl : r.length ≤ 1048576) (hr : Rd w w.heap.size ycells A r) :
    Calls Try.prog 8 #[.slice A r.length c] w fun e w' => e = .returned (.bool (yOk r)) ∧ Below w.heap.size w w' := by
  have HR := Lib.hid hr
  clear hr
  go_enter Try.func8, Try.ntmps8
  go_wp2_with fail
  refine (isValidR_any r A c w hl HR.out).mono ?_
  rintro e w1 ⟨rfl, hb⟩
  have HB := Lib.hid hb
  clear hb
  go_wp2
  go_ret
  exact ⟨rfl, HB.out⟩

set_option maxHeartbeats 2000000 in
theorem l05Walker_any (n : Int) (x : Wal) (hx : wfV x) (h1 : 1 ≤ n) (h60 : n ≤ 60) (w : World) :
    Calls Try.prog 29 #[.int .i64 n, .agg (vcells x).toArray] w fun e w' => e = .returned (.bool (vOk n x)) ∧ Below w.heap.size w w' := by
  obtain ⟨fi, ev, st, sp, co, tu⟩ := x
  obtain ⟨⟨a0, a1⟩, ⟨b0, b1⟩, ⟨c0, c1⟩, ⟨d0, d1⟩, ⟨e0, e1⟩, f0, f1⟩ := hx
  simp only at a0 a1 b0 b1 c0 c1 d0 d1 e0 e1 f0 f1
  have hw1 : IntKind.i64.wrap (n - 1) = n - 1 := IntWalk.i64_in _ ⟨by omega, by omega⟩
  have hw2 : wrap64 (n - 1) = n - 1 := IntWalk.wrap64_in _ ⟨by omega, by omega⟩
  show Calls Try.prog 29 #[.int .i64 n, .agg #[.int .i16 fi, .int .i16 ev, .int .i16 st, .int .i16 sp, .int .i16 co, .int .i8 tu]] w fun e w' => e = .returned (.bool (vOk n ⟨fi, ev, st, sp, co, tu⟩)) ∧ Below w.heap.size w w'
  go_enter Try.func29, Try.ntmps29
  go_wp2
  all_goals (go_ret; exact ⟨ret_bool (by (try simp only [Bool.not_eq_true', Bool.not_eq_false', decide_eq_true_eq, decide_eq_false_iff_not] at *); simp [vOk, *] <;> omega), (by repeat (first | exact Below.refl _ _ | refine Below.drew ?_ | refine Below.alloc ?_ (by simp <;> omega) _ | refine Below.setCell ?_ (by simp <;> omega) _))⟩)
set_option maxHeartbeats 2000000 in
theorem isWalker_any (n : Int) (x : Wal) (hx : wfV x) (h1 : 1 ≤ n) (h60 : n ≤ 60) (w : World) :
    Calls Try.prog 25 #[.int .i64 n, .agg (vcells x).toArray] w fun e w' => e = .returned (.bool (vOk n x)) ∧ Below w.heap.size w w' := by
  obtain ⟨fi, ev, st, sp, co, tu⟩ := x
  obtain ⟨⟨a0, a1⟩, ⟨b0, b1⟩, ⟨c0, c1⟩, ⟨d0, d1⟩, ⟨e0, e1⟩, f0, f1⟩ := hx
  simp only at a0 a1 b0 b1 c0 c1 d0 d1 e0 e1 f0 f1
  have hw1 : IntKind.i64.wrap (n - 1) = n - 1 := IntWalk.i64_in _ ⟨by omega, by omega⟩
  have hw2 : wrap64 (n - 1) = n - 1 := IntWalk.wrap64_in _ ⟨by omega, by omega⟩
  show Calls Try.prog 25 #[.int .i64 n, .agg #[.int .i16 fi, .int .i16 ev, .int .i16 st, .int .i16 sp, .int .i16 co, .int .i8 tu]] w fun e w' => e = .returned (.bool (vOk n ⟨fi, ev, st, sp, co, tu⟩)) ∧ Below w.heap.size w w'
  go_enter Try.func25, Try.ntmps25
  go_wp2
  all_goals (go_ret; exact ⟨ret_bool (by (try simp only [Bool.not_eq_true', Bool.not_eq_false', decide_eq_true_eq, decide_eq_false_iff_not] at *); simp [vOk, *] <;> omega), (by repeat (first | exact Below.refl _ _ | refine Below.drew ?_ | refine Below.alloc ?_ (by simp <;> omega) _ | refine Below.setCell ?_ (by simp <;> omega) _))⟩)

set_option maxHeartbeats 1000000 in
theorem l05Walkers_any (n : Int) (hn : wfI6 n) (l : List Wal) (hwf : ∀ x ∈ l, wfV x) (A : Option Addr) (c : Nat) (w : World) (hl : l.length ≤ 1048576) (hr : Rd w w.heap.size vcells A l) :
    Calls Try.prog 20 #[.int .i64 n, .slice A l.length c] w fun e w' => e = .returned (.bool (vsOk n l)) ∧ Below w.heap.size w w' := by
  have HR := Lib.hid hr
  have HW := Lib.hid hwf
  clear hr hwf
  have hn0 : (0 : Int) ≤ (l.length : Int) := Int.natCast_nonneg _
  go_enter Try.func20, Try.ntmps20
  go_wp2_with fail
  refine (l00In_any _ _ _ _).mono ?_
  rintro e w1 ⟨rfl, rfl⟩
  by_cases h160 : 1 ≤ n ∧ n ≤ 60
  rotate_left
  · have h0 : (decide (1 ≤ n) && decide (n ≤ 60)) = false := by
      rw [Bool.eq_false_iff]; simpa [Bool.and_eq_true, decide_eq_true_eq] using h160
    have H0 : Hid (vsOk n l = false) := by show vsOk n l = false; rw [vsOk, h0]; rfl
    rw [h0]
    clear h0
    go_wp2
    go_ret
    exact ⟨by (rw [H0.out]; first | done | rfl), Below.refl _ _⟩
  have h0 : (decide (1 ≤ n) && decide (n ≤ 60)) = true := by simp [h160]
  rw [h0]
  have H0 := Lib.hid h0
  obtain ⟨h1, h60⟩ := h160
  clear h0
  by_cases h8 : (8 : Int) < l.length
  · go_wp2
    go_ret
    exact ⟨ret_bool (by rw [vsOk, decide_eq_false (by omega : ¬ l.length ≤ 8)]; simp), Below.refl _ _⟩
  have h8' : (l.length : Int) ≤ 8 := by omega
  go_wp2_with fail
  go_loopw [5] (fun i wr => ∃ (k : Nat), k ≤ l.length ∧ i = .int .i64 k ∧ AllTo (vOk n) l k ∧ Below w.heap.size w wr) (fun i _ => l.length - (intOf i).toNat)
  case atStart => exact ⟨0, by omega, rfl, AllTo.zero _ _, Below.refl _ _⟩
  case round =>
    obtain ⟨k, hk, rfl, hT, hB⟩ := hrel
    have HT := Lib.hid hT
    have HB := Lib.hid hB
    clear hT hB
    by_cases hlt : k < l.length
    · obtain ⟨x, hx⟩ : ∃ x, l[k]? = some x := ⟨_, List.getElem?_eq_getElem hlt⟩
      obtain ⟨b, o, rfl, hbl, hrow⟩ := (HR.out.below (Nat.le_refl _) HB.out).at_ vcells_length hx
      have HX := Lib.hid hx
      have HRow := Lib.hid hrow
      have hk0 : (0 : Int) ≤ (k : Int) := Int.natCast_nonneg _
      have hk8 : (k : Int) < l.length := by omega
      clear hx hrow
      go_wp2_with (refine wpList_load_mid rfl 40 (.tmp 23) rfl b (o + k * 6) rfl (vcells x) _ HRow.out Try.underlying40 rfl Try.sizeVI ?_)
      refine (l05Walker_any n x (HW.out x (List.mem_of_getElem? HX.out)) h1 h60 _).mono ?_
      rintro e w1 ⟨rfl, hb1⟩
      have HB1 : Hid (Below w.heap.size w w1) := HB.out.trans (hb1.mono HB.out.size)
      clear hb1
      cases hv : vOk n x
      · have HV := Lib.hid hv
        clear hv
        go_wp2
        go_ret
        exact ⟨ret_bool (by rw [vsOk, all_no HX.out HV.out]; simp), HB1.out⟩
      · have HV := Lib.hid hv
        clear hv
        go_wp2
        go_roundw
        case rel => exact ⟨k + 1, by omega, by go_num, HT.out.step HX.out HV.out, HB1.out⟩
        case measure => simp [intOf]; omega
    · obtain rfl : k = l.length := by omega
      go_wp2
      go_ret
      exact ⟨ret_bool (by rw [vsOk, H0.out, HT.out.all, decide_eq_true (by omega : l.length ≤ 8)]; rfl), HB.out⟩
theorem specValidWalkers_any (n : Int) (hn : wfI6 n) (l : List Wal) (hwf : ∀ x ∈ l, wfV x) (A : Option Addr) (c : Nat) (w : World) (hl : l.length ≤ 1048576) (hr : Rd w w.heap.size vcells A l) :
    Calls Try.prog 13 #[.int .i64 n, .slice A l.length c] w fun e w' => e = .returned (.bool (vsOk n l)) ∧ Below w.heap.size w w' := by
  have HR := Lib.hid hr
  clear hr
  go_enter Try.func13, Try.ntmps13
  go_wp2_with fail
  refine (l05Walkers_any n hn l hwf A c w hl HR.out).mono ?_
  rintro e w1 ⟨rfl, hb⟩
  have HB := Lib.hid hb
  clear hb
  go_wp2
  go_ret
  exact ⟨rfl, HB.out⟩
end Go.Proofs.Ytjiihdljchaeiaa
