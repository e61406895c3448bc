/-
  The contracts of ValidRow and ValidWalkers, of the model and of the program, and of what they call. Condition: the row reads as numbers of eight bits, the walkers' numbers fit their kinds.
-/
import Derived.Test.YtcalooahafgfbaaDoorYv0
import Derived.Test.YtcalooahafgfbaaDoorWk
namespace Go.Proofs.YtcalooahafgfbaaDoor
open Go.ChangeShapes Go.WideShapes Go.ChangeAt Go.RowKit Go.Deep

set_option maxHeartbeats 2000000 in
theorem l05Walker_any (n : Int) (x : Wal) (hx : wfV x) (h1 : 1 ≤ n) (h60 : n ≤ 60) (w : World) :
    Calls Tryd.prog 35 #[.int .i64 n, .agg (vcells x).toArray] w fun e w' => e = .returned (.bool (vOk n x)) ∧ Below w.heap.size w w' := by
  obtain ⟨fi, ev, st, sp, co, tu⟩ := x
  obtain ⟨⟨a0, a1⟩, ⟨b0, b1⟩, ⟨c0, c1⟩, ⟨d0, d1⟩, ⟨e0, e1⟩, f0, f1⟩ := hx
  simp only at a0 a1 b0 b1 c0 c1 d0 d1 e0 e1 f0 f1
  have hw1 : IntKind.i64.wrap (n - 1) = n - 1 := IntWalk.i64_in _ ⟨by omega, by omega⟩
  have hw2 : wrap64 (n - 1) = n - 1 := IntWalk.wrap64_in _ ⟨by omega, by omega⟩
  show Calls Tryd.prog 35 #[.int .i64 n, .agg #[.int .i16 fi, .int .i16 ev, .int .i16 st, .int .i16 sp, .int .i16 co, .int .i8 tu]] w fun e w' => e = .returned (.bool (vOk n ⟨fi, ev, st, sp, co, tu⟩)) ∧ Below w.heap.size w w'
  go_enter Tryd.func35, Tryd.ntmps35
  go_wp2
  all_goals (go_ret; exact ⟨ret_bool (by (try simp only [Bool.not_eq_true', Bool.not_eq_false', decide_eq_true_eq, decide_eq_false_iff_not] at *); simp [vOk, *] <;> omega), (by repeat (first | exact Below.refl _ _ | refine Below.drew ?_ | refine Below.alloc ?_ (by simp <;> omega) _ | refine Below.setCell ?_ (by simp <;> omega) _))⟩)
set_option maxHeartbeats 2000000 in
theorem isWalker_any (n : Int) (x : Wal) (hx : wfV x) (h1 : 1 ≤ n) (h60 : n ≤ 60) (w : World) :
    Calls Tryd.prog 39 #[.int .i64 n, .agg (vcells x).toArray] w fun e w' => e = .returned (.bool (vOk n x)) ∧ Below w.heap.size w w' := by
  obtain ⟨fi, ev, st, sp, co, tu⟩ := x
  obtain ⟨⟨a0, a1⟩, ⟨b0, b1⟩, ⟨c0, c1⟩, ⟨d0, d1⟩, ⟨e0, e1⟩, f0, f1⟩ := hx
  simp only at a0 a1 b0 b1 c0 c1 d0 d1 e0 e1 f0 f1
  have hw1 : IntKind.i64.wrap (n - 1) = n - 1 := IntWalk.i64_in _ ⟨by omega, by omega⟩
  have hw2 : wrap64 (n - 1) = n - 1 := IntWalk.wrap64_in _ ⟨by omega, by omega⟩
  show Calls Tryd.prog 39 #[.int .i64 n, .agg #[.int .i16 fi, .int .i16 ev, .int .i16 st, .int .i16 sp, .int .i16 co, .int .i8 tu]] w fun e w' => e = .returned (.bool (vOk n ⟨fi, ev, st, sp, co, tu⟩)) ∧ Below w.heap.size w w'
  go_enter Tryd.func39, Tryd.ntmps39
  go_wp2
  all_goals (go_ret; exact ⟨ret_bool (by (try simp only [Bool.not_eq_true', Bool.not_eq_false', decide_eq_true_eq, decide_eq_false_iff_not] at *); simp [vOk, *] <;> omega), (by repeat (first | exact Below.refl _ _ | refine Below.drew ?_ | refine Below.alloc ?_ (by simp <;> omega) _ | refine Below.setCell ?_ (by simp <;> omega) _))⟩)

set_option maxHeartbeats 1000000 in
theorem l05Walkers_any (n : Int) (hn : wfI6 n) (l : List Wal) (hwf : ∀ x ∈ l, wfV x) (A : Option Addr) (c : Nat) (w : World) (hl : l.length ≤ 1048576) (hr : Rd w w.heap.size vcells A l) :
    Calls Tryd.prog 26 #[.int .i64 n, .slice A l.length c] w fun e w' => e = .returned (.bool (vsOk n l)) ∧ Below w.heap.size w w' := by
  have HR := Lib.hid hr
  have HW := Lib.hid hwf
  clear hr hwf
  have hn0 : (0 : Int) ≤ (l.length : Int) := Int.natCast_nonneg _
  go_enter Tryd.func26, Tryd.ntmps26
  go_wp2_with fail
  refine (l00In_any _ _ _ _).mono ?_
  rintro e w1 ⟨rfl, rfl⟩
  by_cases h160 : 1 ≤ n ∧ n ≤ 60
  rotate_left
  · have h0 : (decide (1 ≤ n) && decide (n ≤ 60)) = false := by
      rw [Bool.eq_false_iff]; simpa [Bool.and_eq_true, decide_eq_true_eq] using h160
    have H0 : Hid (vsOk n l = false) := by show vsOk n l = false; rw [vsOk, h0]; rfl
    rw [h0]
    clear h0
    go_wp2
    go_ret
    exact ⟨by (rw [H0.out]; first | done | rfl), Below.refl _ _⟩
  have h0 : (decide (1 ≤ n) && decide (n ≤ 60)) = true := by simp [h160]
  rw [h0]
  have H0 := Lib.hid h0
  obtain ⟨h1, h60⟩ := h160
  clear h0
  by_cases h8 : (8 : Int) < l.length
  · go_wp2
    go_ret
    exact ⟨ret_bool (by rw [vsOk, decide_eq_false (by omega : ¬ l.length ≤ 8)]; simp), Below.refl _ _⟩
  have h8' : (l.length : Int) ≤ 8 := by omega
  go_wp2_with fail
  go_loopw [5] (fun i wr => ∃ (k : Nat), k ≤ l.length ∧ i = .int .i64 k ∧ AllTo (vOk n) l k ∧ Below w.heap.size w wr) (fun i _ => l.length - (intOf i).toNat)
  case atStart => exact ⟨0, by omega, rfl, AllTo.zero _ _, Below.refl _ _⟩
  case round =>
    obtain ⟨k, hk, rfl, hT, hB⟩ := hrel
    have HT := Lib.hid hT
    have HB := Lib.hid hB
    clear hT hB
    by_cases hlt : k < l.length
    · obtain ⟨x, hx⟩ : ∃ x, l[k]? = some x := ⟨_, List.getElem?_eq_getElem hlt⟩
      obtain ⟨b, o, rfl, hbl, hrow⟩ := (HR.out.below (Nat.le_refl _) HB.out).at_ vcells_length hx
      have HX := Lib.hid hx
      have HRow := Lib.hid hrow
      have hk0 : (0 : Int) ≤ (k : Int) := Int.natCast_nonneg _
      have hk8 : (k : Int) < l.length := by omega
      clear hx hrow
      go_wp2_with (refine wpList_load_mid rfl 36 (.tmp 23) rfl b (o + k * 6) rfl (vcells x) _ HRow.out Tryd.underlying36 rfl Tryd.sizeVI ?_)
      refine (l05Walker_any n x (HW.out x (List.mem_of_getElem? HX.out)) h1 h60 _).mono ?_
      rintro e w1 ⟨rfl, hb1⟩
      have HB1 : Hid (Below w.heap.size w w1) := HB.out.trans (hb1.mono HB.out.size)
      clear hb1
      cases hv : vOk n x
      · have HV := Lib.hid hv
        clear hv
        go_wp2
        go_ret
        exact ⟨ret_bool (by rw [vsOk, all_no HX.out HV.out]; simp), HB1.out⟩
      · have HV := Lib.hid hv
        clear hv
        go_wp2
        go_roundw
        case rel => exact ⟨k + 1, by omega, by go_num, HT.out.step HX.out HV.out, HB1.out⟩
        case measure => simp [intOf]; omega
    · obtain rfl : k = l.length := by omega
      go_wp2
      go_ret
      exact ⟨ret_bool (by rw [vsOk, H0.out, HT.out.all, decide_eq_true (by omega : l.length ≤ 8)]; rfl), HB.out⟩
end Go.Proofs.YtcalooahafgfbaaDoor
