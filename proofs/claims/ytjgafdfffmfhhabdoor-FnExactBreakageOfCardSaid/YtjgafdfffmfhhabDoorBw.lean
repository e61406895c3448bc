/-
  BreakageOf, the model. Condition: numbers fit their kinds.
-/
import Derived.Test.YtjgafdfffmfhhabDoorBs
import Derived.Test.YtjgafdfffmfhhabDoorHl
namespace Go.Proofs.YtjgafdfffmfhhabDoor
open Go.ChangeShapes Go.WideShapes Go.ChangeAt Go.RowKit Go.Deep

theorem maxSpec_any (n : Int) (w : World) : Calls Tryd.prog 37 #[.int .i64 0, .int .i64 n] w fun e w' => e = .returned (.int .i64 (max 0 n)) ∧ Below w.heap.size w w' := by
  by_cases h : n < 0
  · have e : max 0 n = 0 := by omega
    rw [e]
    go_enter Tryd.func37, Tryd.ntmps37
    go_wp2
    go_ret
    exact ⟨rfl, (by repeat (first | exact Below.refl _ _ | refine Below.drew ?_ | refine Below.alloc ?_ (by simp <;> omega) _ | refine Below.setCell ?_ (by simp <;> omega) _))⟩
  · by_cases h0 : n = 0
    · subst h0
      go_enter Tryd.func37, Tryd.ntmps37
      go_wp2
      go_ret
      exact ⟨rfl, (by repeat (first | exact Below.refl _ _ | refine Below.drew ?_ | refine Below.alloc ?_ (by simp <;> omega) _ | refine Below.setCell ?_ (by simp <;> omega) _))⟩
    have hp : 0 < n := by omega
    have e : max 0 n = n := by omega
    rw [e]
    clear h h0
    go_enter Tryd.func37, Tryd.ntmps37
    go_wp2
    go_ret
    exact ⟨rfl, (by repeat (first | exact Below.refl _ _ | refine Below.drew ?_ | refine Below.alloc ?_ (by simp <;> omega) _ | refine Below.setCell ?_ (by simp <;> omega) _))⟩
theorem quo_facts {B D : Int} (hB : 0 ≤ B ∧ B ≤ 3000000) (hD : 0 ≤ D ∧ D ≤ 3000000) (hn : ¬ D + B = 0) :
    ∃ Q, B * 1000 / (D + B) = Q ∧ Int.tdiv (B * 1000) (D + B) = Q ∧ W64' Q ∧ W64' (B * 1000) ∧ W64' (D + B) := by
  have h1 : Int.tdiv (B * 1000) (D + B) = B * 1000 / (D + B) := Int.tdiv_eq_ediv_of_nonneg (by omega)
  have h2 : 0 ≤ B * 1000 / (D + B) := Int.ediv_nonneg (by omega) (by omega)
  have h3 : B * 1000 / (D + B) ≤ B * 1000 := Int.ediv_le_self _ (by omega)
  exact ⟨_, rfl, h1, w64' ⟨by omega, by omega⟩, w64' ⟨by omega, by omega⟩, w64' ⟨by omega, by omega⟩⟩
set_option maxRecDepth 100000 in
set_option maxHeartbeats 4000000 in
theorem specBreak_any (l : List Ent) (hwf : ∀ x ∈ l, wfE x) (A : Option Addr) (c : Nat) (w : World) (hl : l.length ≤ 1048576) (hr : Rd w w.heap.size ecells A l) :
    Calls Tryd.prog 21 #[.slice A l.length c] w fun e w' => e = .returned (.tuple #[.int .i64 (brN l), .int .i64 (brC l)]) ∧ Below w.heap.size w w' := by
  have HR := Lib.hid hr
  have HW := Lib.hid hwf
  clear hr hwf
  by_cases hlo : 80 < l.length
  · have E := Lib.hid (br_long hlo)
    have hlo' : (80 : Int) < l.length := by omega
    clear hlo
    go_enter Tryd.func21, Tryd.ntmps21
    go_wp2
    go_ret2
    exact ⟨by (rw [E.out.1, E.out.2]; first | done | rfl), (by repeat (first | exact Below.refl _ _ | refine Below.drew ?_ | refine Below.alloc ?_ (by simp <;> omega) _ | refine Below.setCell ?_ (by simp <;> omega) _))⟩
  have hls : ¬ (80 : Int) < l.length := by omega
  have HLO := Lib.hid hlo
  go_enter Tryd.func21, Tryd.ntmps21
  go_wp2
  go_loopw [4, 5, 6] (fun b a i wr => ∃ (k : Nat), k ≤ l.length ∧ i = .int .i64 k ∧ b = .int .i64 (bkB l k) ∧ a = .int .i64 (bkD l k + bkB l k) ∧ Below w.heap.size w wr) (fun _ _ i _ => l.length - (intOf i).toNat)
  case atStart => exact ⟨0, by omega, rfl, rfl, rfl, (by repeat (first | exact Below.refl _ _ | refine Below.drew ?_ | refine Below.alloc ?_ (by simp <;> omega) _ | refine Below.setCell ?_ (by simp <;> omega) _))⟩
  case round =>
    obtain ⟨k, hk, rfl, rfl, rfl, hB⟩ := hrel
    have HB := Lib.hid hB
    clear hB
    have hin := bk_in HW.out k hk
    obtain ⟨B, hBB⟩ : ∃ S, bkB l k = S := ⟨_, rfl⟩
    obtain ⟨D, hDD⟩ : ∃ S, bkD l k = S := ⟨_, rfl⟩
    have HBB := Lib.hid hBB
    have HDD := Lib.hid hDD
    rw [hBB, hDD] at hin ⊢
    clear hBB hDD
    obtain ⟨⟨b0, b1⟩, d0, d1⟩ := hin
    have hk0 : (0 : Int) ≤ (k : Int) := Int.natCast_nonneg _
    have hk1 : (k : Int) ≤ 80 := by omega
    have b2 : B ≤ 2700000 := by omega
    have d2 : D ≤ 2700000 := by omega
    clear b1 d1
    by_cases hlt : k < l.length
    · obtain ⟨⟨dy, fr, to, wh, nu⟩, hx⟩ : ∃ x, l[k]? = some x := ⟨_, List.getElem?_eq_getElem hlt⟩
      obtain ⟨g, o, rfl, hbl, hrow⟩ := (HR.out.below (Nat.le_refl _) HB.out).at_ ecells_length hx
      obtain ⟨e0, e1, e2, e3, e4⟩ := rowE5 hrow
      simp only at e0 e1 e2 e3 e4
      have HS1 : Hid (bkB l (k + 1) = B + (if wh = 4 then nmE ⟨dy, fr, to, wh, nu⟩ else 0)) := by show _ = _; rw [bkB_succ hx, HBB.out]
      have HS2 : Hid (bkD l (k + 1) = D + (if wh = 3 then nmE ⟨dy, fr, to, wh, nu⟩ else 0)) := by show _ = _; rw [bkD_succ hx, HDD.out]
      have hwx := HW.out _ (List.mem_of_getElem? hx)
      have hnm := nmE_in hwx
      obtain ⟨-, -, -, ⟨u0, u1⟩, f0, f1⟩ := hwx
      simp only at u0 u1 f0 f1
      have x5 : IntKind.i64.wrap nu = nu := IntWalk.i64_in _ ⟨by omega, by omega⟩
      have x6 : wrap64 nu = nu := IntWalk.wrap64_in _ ⟨by omega, by omega⟩
      have HM : Hid (∀ z, Calls Tryd.prog 37 #[.int .i64 0, .int .i64 nu] z fun e w' => e = .returned (.int .i64 (nmE ⟨dy, fr, to, wh, nu⟩)) ∧ Below z.heap.size z w') := fun z => maxSpec_any nu z
      obtain ⟨n, hn⟩ : ∃ n, nmE ⟨dy, fr, to, wh, nu⟩ = n := ⟨_, rfl⟩
      rw [hn] at HS1 HS2 HM hnm
      obtain ⟨n0, n1⟩ := hnm
      obtain ⟨T, hT⟩ : ∃ T, D + B = T := ⟨_, rfl⟩
      have HT := Lib.hid hT
      have y1 : W64' (B + n) := w64' ⟨by omega, by omega⟩
      have y3 : W64' (T + n) := w64' ⟨by omega, by omega⟩
      obtain ⟨y1, y2⟩ := y1
      obtain ⟨y3, y4⟩ := y3
      have hk8 : (k : Int) < l.length := by omega
      rw [hT]
      have HX := Lib.hid (show k < l.length from hlt)
      have HRow := Lib.hid hrow
      have HBl := Lib.hid hbl
      clear hx hn hT hrow hlt
      go_wp2_with fail
      refine (HM.out _).mono ?_
      rintro e w1 ⟨rfl, hb⟩
      have HB1 : Hid (Below w.heap.size w w1) := HB.out.trans (hb.mono HB.out.size)
      have hrow1 := rangeAt_below HRow.out hb (Nat.lt_of_lt_of_le HBl.out HB.out.size)
      obtain ⟨q0, q1, q2, q3, q4⟩ := rowE5 hrow1
      simp only at q0 q1 q2 q3 q4
      clear e0 e1 e2 e3 e4 hb hrow1
      by_cases h4 : wh = 4
      · subst h4
        have E1 : Hid (bkB l (k + 1) = B + n) := HS1.out
        have E2 : Hid (bkD l (k + 1) + bkB l (k + 1) = T + n) := by show _ = _; rw [HS2.out, HS1.out, ← HT.out]; simp; omega
        go_wp2
        go_roundw
        case rel => exact ⟨k + 1, by omega, by go_num, by rw [E1.out], by rw [E2.out], HB1.out⟩
        case measure => simp [intOf]; omega
      have z1 : (wh == 4) = false := by simpa using h4
      by_cases h3 : wh = 3
      · subst h3
        have E1 : Hid (bkB l (k + 1) = B) := by show _ = _; rw [HS1.out]; simp
        have E2 : Hid (bkD l (k + 1) + bkB l (k + 1) = T + n) := by show _ = _; rw [HS2.out, HS1.out, ← HT.out]; simp; omega
        clear h4 z1
        go_wp2
        go_roundw
        case rel => exact ⟨k + 1, by omega, by go_num, by rw [E1.out], by rw [E2.out], HB1.out⟩
        case measure => simp [intOf]; omega
      have z2 : (wh == 3) = false := by simpa using h3
      have E1 : Hid (bkB l (k + 1) = B) := by show _ = _; rw [HS1.out, if_neg h4]; omega
      have E2 : Hid (bkD l (k + 1) + bkB l (k + 1) = T) := by show _ = _; rw [HS2.out, HS1.out, if_neg h4, if_neg h3, ← HT.out]; omega
      clear h3 h4
      go_wp2
      go_roundw
      case rel => exact ⟨k + 1, by omega, by go_num, by rw [E1.out], by rw [E2.out], HB1.out⟩
      case measure => simp [intOf]; omega
    · obtain rfl : k = l.length := by omega
      by_cases h0 : D + B = 0
      · have E := Lib.hid (br_none HLO.out (by rw [HBB.out, HDD.out]; exact h0))
        rw [h0]
        clear h0
        go_wp2
        go_ret2
        exact ⟨by (rw [E.out.1, E.out.2]; first | done | rfl), HB.out⟩
      · obtain ⟨E1, E2⟩ := br_some HLO.out (by rw [HBB.out, HDD.out]; exact h0)
        rw [HBB.out, HDD.out] at E2
        obtain ⟨Q, hq, hq2, ⟨q1, q2⟩, ⟨q3, q4⟩, q5, q6⟩ := quo_facts ⟨b0, by omega⟩ ⟨d0, by omega⟩ h0
        rw [hq] at E2
        obtain ⟨T, hT⟩ : ∃ T, D + B = T := ⟨_, rfl⟩
        rw [hT] at hq2 h0 ⊢
        have E1 := Lib.hid E1
        have E2 := Lib.hid E2
        have hz : (T == 0) = false := by simpa using h0
        clear hq hT q5 q6
        go_wp2
        go_ret2
        exact ⟨by (rw [E1.out, E2.out]; first | done | rfl), HB.out⟩
end Go.Proofs.YtjgafdfffmfhhabDoor
