/-
  Holdings within their bounds: the checks, of the program and of the model. Condition: numbers fit their kinds; the sentinel errors lie as the row lists them (the program's).
-/
import Derived.Test.YtcdoablhnlkkmaaDoorHh
import Derived.Test.YtcdoablhnlkkmaaDoorEo
import Derived.Test.YtcdoablhnlkkmaaDoorYv0
namespace Go.Proofs.YtcdoablhnlkkmaaDoor
open Go.ChangeShapes Go.WideShapes Go.ChangeAt Go.RowKit Go.Deep

theorem rowH5 {w : World} {b o k : Nat} {x : Hol} (h : w.rangeAt b (o + k * 5) (hcells x)) : w.cell? ⟨b, o + k * 5, none⟩ = some (.int .i64 x.fu) ∧ w.cell? ⟨b, o + k * 5 + 1, none⟩ = some (.int .i64 x.em) ∧ w.cell? ⟨b, o + k * 5 + 2, none⟩ = some (.int .i64 x.cr) ∧ w.cell? ⟨b, o + k * 5 + 3, none⟩ = some (.int .i64 x.br) ∧ w.cell? ⟨b, o + k * 5 + 4, none⟩ = some (.int .i64 x.mo) :=
  ⟨by simpa using h 0 _ rfl, h 1 _ rfl, h 2 _ rfl, h 3 _ rfl, h 4 _ rfl⟩
theorem rngH5 {w : World} {b : Nat} {o : Nat} {x : Hol} (h : w.rangeAt b o (hcells x)) : w.cell? ⟨b, o, none⟩ = some (.int .i64 x.fu) ∧ w.cell? ⟨b, o + 1, none⟩ = some (.int .i64 x.em) ∧ w.cell? ⟨b, o + 2, none⟩ = some (.int .i64 x.cr) ∧ w.cell? ⟨b, o + 3, none⟩ = some (.int .i64 x.br) ∧ w.cell? ⟨b, o + 4, none⟩ = some (.int .i64 x.mo) :=
  ⟨by simpa using h 0 _ rfl, h 1 _ rfl, h 2 _ rfl, h 3 _ rfl, h 4 _ rfl⟩

theorem max4 (P : Program) (a b c d : Int) : ∃ M, (∀ ts t w, (Builtin.max_ ts t #[.int .i64 a, .int .i64 b, .int .i64 c, .int .i64 d]).run P w = .ok (.int .i64 M) w) ∧ (M ≤ 1000000 ↔ a ≤ 1000000 ∧ b ≤ 1000000 ∧ c ≤ 1000000 ∧ d ≤ 1000000) := by
  refine ⟨_, fun ts t w => by simp [Builtin.max_, Builtin.max2]; rfl, ?_⟩
  split <;> split <;> split <;> omega
theorem min4 (P : Program) (a b c d : Int) : ∃ M, (∀ ts t w, (Builtin.min_ ts t #[.int .i64 a, .int .i64 b, .int .i64 c, .int .i64 d]).run P w = .ok (.int .i64 M) w) ∧ (M < 0 ↔ a < 0 ∨ b < 0 ∨ c < 0 ∨ d < 0) := by
  refine ⟨_, fun ts t w => by simp [Builtin.min_, Builtin.min2]; rfl, ?_⟩
  split <;> split <;> split <;> omega
set_option maxRecDepth 100000 in
set_option maxHeartbeats 4000000 in
theorem l06Held_any (x : Hol) (b o : Nat) (w : World) (hr : w.rangeAt b o (hcells x)) :
    Calls Tryd.prog 64 #[.pointer (some ⟨b, o, none⟩)] w fun e w' => e = .returned (.bool (hoOk x)) ∧ w = w' := by
  obtain ⟨fu, em, cr, br, mo⟩ := x
  obtain ⟨g0, g1, g2, g3, g4⟩ := rngH5 hr
  simp only at g0 g1 g2 g3 g4
  clear hr
  go_enter Tryd.func64, Tryd.ntmps64
  go_wp2
  all_goals (go_ret; exact ⟨ret_bool (by (try simp only [Bool.not_eq_true', Bool.not_eq_false', decide_eq_true_eq, decide_eq_false_iff_not] at *); simp [hoOk, wi, *] <;> omega), rfl⟩)
set_option maxRecDepth 100000 in
set_option maxHeartbeats 4000000 in
theorem l06Holdings_any (l : List Hol) (A : Option Addr) (c : Nat) (w : World) (hl : l.length ≤ 1048576) (hr : Rd w w.heap.size hcells A l) :
    Calls Tryd.prog 61 #[.slice A l.length c] w fun e w' => e = .returned (.int .i64 (hoC l)) ∧ w = w' := by
  have HR := Lib.hid hr
  clear hr
  have hn0 : (0 : Int) ≤ (l.length : Int) := Int.natCast_nonneg _
  go_enter Tryd.func61, Tryd.ntmps61
  go_wp2_with fail
  refine (l00In_any _ _ _ _).mono ?_
  rintro e w1 ⟨rfl, rfl⟩
  rw [show (decide ((1 : Int) ≤ (l.length : Int)) && decide ((l.length : Int) ≤ 6)) = paOk l.length from rfl]
  cases hp : paOk l.length
  · have E : Hid (hoC l = 1) := by show hoC l = 1; rw [hoC, hp]; rfl
    clear hp
    go_wp2
    go_ret
    exact ⟨by (rw [E.out]; first | done | rfl), rfl⟩
  have HP := Lib.hid hp
  clear hp
  go_wp2_with fail
  go_loop [3] (fun i => ∃ (k : Nat), k ≤ l.length ∧ i = .int .i64 k ∧ AllTo hoOk l k) (fun i => l.length - (intOf i).toNat)
  case atStart => exact ⟨0, by omega, rfl, AllTo.zero _ _⟩
  case round =>
    obtain ⟨k, hk, rfl, hT⟩ := hrel
    have HT := Lib.hid hT
    clear hT
    by_cases hlt : k < l.length
    · obtain ⟨x, hx⟩ : ∃ x, l[k]? = some x := ⟨_, List.getElem?_eq_getElem hlt⟩
      obtain ⟨b, o, rfl, hbl, hrow⟩ := HR.out.at_ hcells_length hx
      have HX := Lib.hid hx
      have HRow := Lib.hid hrow
      have hk0 : (0 : Int) ≤ (k : Int) := Int.natCast_nonneg _
      have hk8 : (k : Int) < l.length := by omega
      clear hx hrow
      go_wp2_with fail
      refine (l06Held_any x b (o + k * 5) _ HRow.out).mono ?_
      rintro e w1 ⟨rfl, rfl⟩
      cases hv : hoOk x
      · have E : Hid (hoC l = 2) := by show hoC l = 2; rw [hoC, HP.out, if_pos rfl, all_no HX.out hv]; rfl
        clear hv
        go_wp2
        go_ret
        exact ⟨by (rw [E.out]; first | done | rfl), rfl⟩
      · have HV := Lib.hid hv
        clear hv
        go_wp2
        go_round
        case rel => exact ⟨k + 1, by omega, by go_num, HT.out.step HX.out HV.out⟩
        case measure => simp [intOf]; omega
    · obtain rfl : k = l.length := by omega
      have E : Hid (hoC l = 0) := by show hoC l = 0; rw [hoC, HP.out, if_pos rfl, HT.out.all]; rfl
      go_wp2
      go_ret
      exact ⟨by (rw [E.out]; first | done | rfl), rfl⟩

set_option maxRecDepth 100000 in
set_option maxHeartbeats 4000000 in
theorem isWithinBounds_any (x : Hol) (hx : wfH x) (w : World) :
    Calls Tryd.prog 69 #[.agg (hcells x).toArray] w fun e w' => e = .returned (.bool (hoOk x)) ∧ Below w.heap.size w w' := by
  obtain ⟨fu, em, cr, br, mo⟩ := x
  show Calls Tryd.prog 69 #[.agg #[.int .i64 fu, .int .i64 em, .int .i64 cr, .int .i64 br, .int .i64 mo]] w fun e w' => e = .returned (.bool (hoOk ⟨fu, em, cr, br, mo⟩)) ∧ Below w.heap.size w w'
  obtain ⟨M, hM, hMi⟩ := max4 Tryd.prog fu em cr br
  obtain ⟨m, hm, hmi⟩ := min4 Tryd.prog fu em cr br
  have HMi := Lib.hid hMi
  have Hmi := Lib.hid hmi
  clear hMi hmi
  go_enter Tryd.func69, Tryd.ntmps69
  go_wp2
  all_goals (go_ret; exact ⟨ret_bool (by have q1 := HMi.out; have q2 := Hmi.out; rw [Bool.eq_iff_iff, hoOk_iff]; (try simp only [Bool.false_eq_true, false_iff, true_iff, decide_eq_true_eq, Bool.and_eq_true, Bool.not_eq_true', Bool.not_eq_false', decide_eq_false_iff_not] at *); omega), (by repeat (first | exact Below.refl _ _ | refine Below.drew ?_ | refine Below.alloc ?_ (by simp <;> omega) _ | refine Below.setCell ?_ (by simp <;> omega) _))⟩)
set_option maxRecDepth 100000 in
set_option maxHeartbeats 4000000 in
theorem checkEachH_any (xs : List Hol) (hwf : ∀ x ∈ xs, wfH x) (A : Option Addr) (c : Nat) (ad : Nat → Addr) (w : World) (hl : xs.length ≤ 1048576) (hr : Rd w w.heap.size hcells A xs) (hE : EW 7 w ad) :
    Calls Tryd.prog 68 #[.slice A xs.length c, .func (.func 69) #[] #[]] w fun e w' => e = .returned (erO ad (chk 5 (xs.all hoOk))) ∧ Below w.heap.size w w' := by
  have HR := Lib.hid hr
  have HE := Lib.hid hE
  have HW := Lib.hid hwf
  clear hr hE hwf
  go_enter Tryd.func68, Tryd.ntmps68
  go_wp2_with fail
  go_loopw [9] (fun i wr => ∃ (k : Nat), k ≤ xs.length ∧ i = .int .i64 k ∧ AllTo hoOk xs k ∧ Below w.heap.size w wr) (fun i _ => xs.length - (intOf i).toNat)
  case atStart => exact ⟨0, by omega, rfl, AllTo.zero _ _, Below.refl _ _⟩
  case round =>
    obtain ⟨k, hk, rfl, hT, hB⟩ := hrel
    have HT := Lib.hid hT
    have HB := Lib.hid hB
    clear hT hB
    by_cases hlt : k < xs.length
    · obtain ⟨⟨fu, em, cr, br, mo⟩, hx⟩ : ∃ x, xs[k]? = some x := ⟨_, List.getElem?_eq_getElem hlt⟩
      obtain ⟨b, o, rfl, hbl, hrow⟩ := (HR.out.below (Nat.le_refl _) HB.out).at_ hcells_length hx
      obtain ⟨e0, e1, e2, e3, e4⟩ := rowH5 hrow
      simp only at e0 e1 e2 e3 e4
      have HX := Lib.hid hx
      have hk0 : (0 : Int) ≤ (k : Int) := Int.natCast_nonneg _
      have hk8 : (k : Int) < xs.length := by omega
      have HA : Hid (Below w.heap.size w (wr.alloc (.cells #[.int .i64 fu, .int .i64 em, .int .i64 cr, .int .i64 br, .int .i64 mo] 83))) := HB.out.alloc HB.out.size _
      clear hx hrow
      go_wp2_with fail
      refine (isWithinBounds_any ⟨fu, em, cr, br, mo⟩ (HW.out _ (List.mem_of_getElem? HX.out)) _).mono ?_
      rintro e w1 ⟨rfl, hb1⟩
      have HB1 : Hid (Below w.heap.size w w1) := HA.out.trans (hb1.mono HA.out.size)
      have c0 : w1.cell? ⟨7, 0, none⟩ = some (.iface 172 (.pointer (some (ad 5)))) := ((HE.out).below HB1.out (Nat.le_refl _)).cell 5 (by omega)
      clear hb1 HA e0 e1 e2 e3 e4
      cases hv : hoOk ⟨fu, em, cr, br, mo⟩
      · have HV := Lib.hid hv
        clear hv
        go_wp2
        go_ret
        exact ⟨by rw [all_no HX.out HV.out]; rfl, HB1.out⟩
      · have HV := Lib.hid hv
        clear hv
        go_wp2
        go_roundw
        case rel => exact ⟨k + 1, by omega, by go_num, HT.out.step HX.out HV.out, HB1.out⟩
        case measure => simp [intOf]; omega
    · obtain rfl : k = xs.length := by omega
      go_wp2
      go_ret
      exact ⟨by rw [HT.out.all]; rfl, HB.out⟩
set_option maxHeartbeats 2000000 in
theorem checkHoldings_any (xs : List Hol) (hwf : ∀ x ∈ xs, wfH x) (A : Option Addr) (c : Nat) (ad : Nat → Addr) (w : World) (hl : xs.length ≤ 1048576) (hr : Rd w w.heap.size hcells A xs) (hE : EW 7 w ad) :
    Calls Tryd.prog 49 #[.slice A xs.length c] w fun e w' => e = .returned (erO ad (chk 0 (xs.all hoOk))) ∧ Below w.heap.size w w' := by
  have HR := Lib.hid hr
  have HE := Lib.hid hE
  clear hr hE
  go_enter Tryd.func49, Tryd.ntmps49
  go_wp2_with fail
  refine (checkEachH_any xs hwf A c ad _ hl HR.out HE.out).mono ?_
  rintro e w1 ⟨rfl, hb⟩
  have HB := Lib.hid hb
  have c0 : w1.cell? ⟨3, 0, none⟩ = some (.iface 172 (.pointer (some (ad 0)))) := ((HE.out).below hb (Nat.le_refl _)).cell 0 (by omega)
  clear hb
  cases hv : xs.all hoOk
  · rw [chk_no, erO_some]
    have HV := Lib.hid hv
    clear hv
    go_wp2
    go_ret
    exact ⟨by (simp only [HV.out, chk_no, chk_yes, erO_some, erO_none]; first | done | rfl), HB.out⟩
  · rw [chk_yes, erO_none]
    have HV := Lib.hid hv
    clear hv
    go_wp2
    go_ret
    exact ⟨by (simp only [HV.out, chk_no, chk_yes, erO_some, erO_none]; first | done | rfl), HB.out⟩
set_option maxHeartbeats 1000000 in
theorem checkPerH_any (n c : Nat) (A : Option Addr) (ad : Nat → Addr) (w : World) (hl : n ≤ 1048576) (hE : EW 7 w ad) :
    Calls Tryd.prog 66 #[.slice A n c] w fun e w' => e = .returned (erO ad (chk 5 (paOk n))) ∧ w = w' := by
  have c0 : w.cell? ⟨7, 0, none⟩ = some (.iface 172 (.pointer (some (ad 5)))) := hE.cell 5 (by omega)
  clear hE
  have hn0 : (0 : Int) ≤ (n : Int) := Int.natCast_nonneg _
  go_enter Tryd.func66, Tryd.ntmps66
  go_wp2_with fail
  refine (isWithin_any _ _ _ _).mono ?_
  rintro e w1 ⟨rfl, rfl⟩
  rw [show (decide ((1 : Int) ≤ (n : Int)) && decide ((n : Int) ≤ 6)) = paOk n from rfl]
  cases hv : paOk n
  · have HV := Lib.hid hv
    clear hv
    go_wp2
    go_ret
    exact ⟨by (simp only [HV.out, chk_no, chk_yes, erO_some, erO_none]; first | done | rfl), rfl⟩
  · have HV := Lib.hid hv
    clear hv
    go_wp2
    go_ret
    exact ⟨by (simp only [HV.out, chk_no, chk_yes, erO_some, erO_none]; first | done | rfl), rfl⟩
set_option maxHeartbeats 1000000 in
theorem checkPerN_any (n c : Nat) (A : Option Addr) (ad : Nat → Addr) (w : World) (hl : n ≤ 1048576) (hE : EW 7 w ad) :
    Calls Tryd.prog 53 #[.slice A n c] w fun e w' => e = .returned (erO ad (chk 5 (paOk n))) ∧ w = w' := by
  have c0 : w.cell? ⟨7, 0, none⟩ = some (.iface 172 (.pointer (some (ad 5)))) := hE.cell 5 (by omega)
  clear hE
  have hn0 : (0 : Int) ≤ (n : Int) := Int.natCast_nonneg _
  go_enter Tryd.func53, Tryd.ntmps53
  go_wp2_with fail
  refine (isWithin_any _ _ _ _).mono ?_
  rintro e w1 ⟨rfl, rfl⟩
  rw [show (decide ((1 : Int) ≤ (n : Int)) && decide ((n : Int) ≤ 6)) = paOk n from rfl]
  cases hv : paOk n
  · have HV := Lib.hid hv
    clear hv
    go_wp2
    go_ret
    exact ⟨by (simp only [HV.out, chk_no, chk_yes, erO_some, erO_none]; first | done | rfl), rfl⟩
  · have HV := Lib.hid hv
    clear hv
    go_wp2
    go_ret
    exact ⟨by (simp only [HV.out, chk_no, chk_yes, erO_some, erO_none]; first | done | rfl), rfl⟩
end Go.Proofs.YtcdoablhnlkkmaaDoor
