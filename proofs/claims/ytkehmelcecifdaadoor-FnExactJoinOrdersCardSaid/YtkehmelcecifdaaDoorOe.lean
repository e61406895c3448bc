/-
  The contract of the program's ValidOrder. Condition: the list reads as wants whose numbers fit their kinds.
-/
import Derived.Test.YtkehmelcecifdaaDoorOd
namespace Go.Proofs.YtkehmelcecifdaaDoor
open Go.ChangeShapes Go.WideShapes Go.ChangeAt Go.RowKit Go.Deep

theorem compareWants_any (k y n k' y' n' : Int) (w : World) : Calls Tryd.prog 71 #[.agg #[.int .u8 k, .int .i16 y, .int .i16 n], .agg #[.int .u8 k', .int .i16 y', .int .i16 n']] w fun e w' => e = .returned (.int .i64 (cmpB (k, y) (k', y'))) ∧ Below w.heap.size w w' := by
  go_enter Tryd.func71, Tryd.ntmps71
  go_wp2_with fail
  refine (cmpB_any _ _ _ _ _).mono ?_
  rintro e w1 ⟨rfl, hb⟩
  have HB : Hid (Below w.heap.size w w1) := (show Below w.heap.size w ((w.alloc (.cells #[.int .u8 k, .int .i16 y, .int .i16 n] 91)).alloc (.cells #[.int .u8 k', .int .i16 y', .int .i16 n'] 91)) from (by repeat (first | exact Below.refl _ _ | refine Below.drew ?_ | refine Below.alloc ?_ (by simp <;> omega) _ | refine Below.setCell ?_ (by simp <;> omega) _))).trans (hb.mono (by simp; omega))
  clear hb
  go_wp2
  go_ret
  exact ⟨rfl, HB.out⟩

set_option maxRecDepth 100000 in
set_option maxHeartbeats 2000000 in
theorem validOrder_any (xs : List Wnt) (hwf : ∀ x ∈ xs, wfW x) (A : Option Addr) (c : Nat) (w : World) (hl : xs.length ≤ 1048576) (hr : Rd w w.heap.size wcells A xs) :
    Calls Tryd.prog 72 #[.slice A xs.length c] w fun e w' => e = .returned (.bool (ordOk xs)) ∧ Below w.heap.size w w' := by
  have HR := Lib.hid hr
  have HW := Lib.hid hwf
  clear hr hwf
  by_cases h8 : 8 < xs.length
  · have h8' : (8 : Int) < xs.length := by omega
    go_enter Tryd.func72, Tryd.ntmps72
    go_wp2
    go_ret
    exact ⟨ret_bool (by simp [ordOk]; intro; omega), Below.refl _ _⟩
  have h8' : (xs.length : Int) ≤ 8 := by omega
  go_enter Tryd.func72, Tryd.ntmps72
  go_wp2_with fail
  go_loopw [10] (fun i wr => ∃ (k : Nat), k ≤ xs.length ∧ i = .int .i64 k ∧ OrdTo xs k ∧ Below w.heap.size w wr) (fun i _ => xs.length - (intOf i).toNat)
  case atStart => exact ⟨0, by omega, rfl, fun j h => by omega, Below.refl _ _⟩
  case round =>
    obtain ⟨k, hk, rfl, hT, hB⟩ := hrel
    have HT := Lib.hid hT
    have HB := Lib.hid hB
    clear hT hB
    by_cases hlt : k < xs.length
    · obtain ⟨⟨⟨k1, y1⟩, n1⟩, hx⟩ : ∃ x, xs[k]? = some x := ⟨_, List.getElem?_eq_getElem hlt⟩
      have hwx := HW.out _ (List.mem_of_getElem? hx)
      obtain ⟨b, o, rfl, hbl, hrow⟩ := (HR.out.below (Nat.le_refl _) HB.out).at_ wcells_length hx
      obtain ⟨e1, e2, e3⟩ := rowW hrow
      have HX := Lib.hid hx
      have HWX := Lib.hid hwx
      have HRow := Lib.hid hrow
      clear hx hwx hrow
      have hk0 : (0 : Int) ≤ (k : Int) := Int.natCast_nonneg _
      have hk8 : (k : Int) < xs.length := by omega
      have hn1 : -32768 ≤ n1 := HWX.out.2.1
      have hn2 : n1 ≤ 32767 := HWX.out.2.2
      have hA : Below w.heap.size w (wr.alloc (.cells #[.int .u8 k1, .int .i16 y1, .int .i16 n1] 91)) := HB.out.alloc HB.out.size _
      have hC : Blk (wr.alloc (.cells #[.int .u8 k1, .int .i16 y1, .int .i16 n1] 91)) wr.heap.size 91 #[.int .u8 k1, .int .i16 y1, .int .i16 n1] := Blk.new _ _ _
      have HA := Lib.hid hA
      have HC := Lib.hid hC
      clear hA hC
      go_wp2_with fail
      refine (validBottle_any _ _ _).mono ?_
      rintro e w1 ⟨rfl, hb1⟩
      have HB1 : Hid (Below w.heap.size w w1) := HA.out.trans (hb1.mono HA.out.size)
      have HC1 : Hid (Blk w1 wr.heap.size 91 #[.int .u8 k1, .int .i16 y1, .int .i16 n1]) := HC.out.keep hb1
      clear hb1 e1 e2 e3 HA HC
      have d0 : w1.cell? ⟨wr.heap.size, 0, none⟩ = some (.int .u8 k1) := HC1.out.cell 0
      have d1 : w1.cell? ⟨wr.heap.size, 1, none⟩ = some (.int .i16 y1) := HC1.out.cell 1
      have d2 : w1.cell? ⟨wr.heap.size, 2, none⟩ = some (.int .i16 n1) := HC1.out.cell 2
      cases hv : vB (k1, y1)
      · have HV := Lib.hid hv
        clear hv
        go_wp2
        go_ret
        exact ⟨ret_bool (ordOk_bad HX.out (by simp [vW, HV.out])).symm, HB1.out⟩
      · have HV := Lib.hid hv
        clear hv
        by_cases hlo : n1 < 1
        · go_wp2
          go_ret
          exact ⟨ret_bool (ordOk_bad HX.out (by simp [vW]; intro _ h; omega)).symm, HB1.out⟩
        by_cases hhi : 144 < n1
        · have hlo' : 1 ≤ n1 := by omega
          go_wp2
          go_ret
          exact ⟨ret_bool (ordOk_bad HX.out (by simp [vW]; intro _ h; omega)).symm, HB1.out⟩
        have hlo' : 1 ≤ n1 := by omega
        have hhi' : n1 ≤ 144 := by omega
        have hvw : Hid (vW ((k1, y1), n1) = true) := by show vW ((k1, y1), n1) = true; simp [vW, HV.out, hlo', hhi']
        rcases Nat.eq_zero_or_pos k with rfl | hpos
        · skip
          go_wp2_with fail
          go_quiet (fail)
          go_wp2
          go_roundw
          case rel => exact ⟨0 + 1, by omega, by go_num, HT.out.step HX.out hvw.out rfl, below_drewN HB1.out _⟩
          case measure => simp [intOf]; omega
        · obtain ⟨m, hmk⟩ : ∃ m, m + 1 = k := ⟨k - 1, by omega⟩
          obtain ⟨⟨⟨k2, y2⟩, n2⟩, hy⟩ : ∃ y, xs[m]? = some y := ⟨_, List.getElem?_eq_getElem (by omega)⟩
          have hrow2 : w1.rangeAt b (o + m * 3) (wcells ((k2, y2), n2)) := by
            obtain ⟨b', o', e, _, h⟩ := (HR.out.below (Nat.le_refl _) HB1.out).at_ wcells_length hy
            cases e; exact h
          obtain ⟨f1, f2, f3⟩ := rowW hrow2
          have HY := Lib.hid hy
          clear hy hrow2
          have hsub : IntKind.i64.wrap ((k : Int) - 1) = (m : Int) := by
            rw [show (k : Int) - 1 = (m : Int) from by omega]
            exact IntWalk.i64_in _ ⟨by omega, by omega⟩
          have hsub' : wrap64 ((k : Int) - 1) = (m : Int) := by rw [show (k : Int) - 1 = (m : Int) from by omega]; exact IntWalk.wrap64_in _ ⟨by omega, by omega⟩
          have hm0 : (0 : Int) ≤ (m : Int) := Int.natCast_nonneg _
          have hm8 : (m : Int) < xs.length := by omega
          have hgt : (0 : Int) < (k : Int) := by omega
          have hbw : b < w1.heap.size := Nat.lt_of_lt_of_le hbl HB1.out.size
          have hbw2 : wr.heap.size < w1.heap.size := HC1.out.lt
          have hs0 : Below w1.heap.size w1 w1 := Below.refl _ _
          go_wp2_with fail
          go_region_held3 (fun w' => w'.cell? ⟨b, o + m * 3, none⟩ = some (.int .u8 k2) ∧ w'.cell? ⟨b, o + m * 3 + 1, none⟩ = some (.int .i16 y2) ∧ w'.cell? ⟨b, o + m * 3 + 2, none⟩ = some (.int .i16 n2) ∧ w'.cell? ⟨wr.heap.size, 0, none⟩ = some (.int .u8 k1) ∧ w'.cell? ⟨wr.heap.size, 1, none⟩ = some (.int .i16 y1) ∧ w'.cell? ⟨wr.heap.size, 2, none⟩ = some (.int .i16 n1) ∧ Below w1.heap.size w1 w') ((refine ⟨?_, ?_, ?_, ?_, ?_, ?_, ?_⟩ <;> (first | assumption | exact Below.drew ‹_› | (simp [*]; done))))
            (first
              | (go_at_call 71; refine (compareWants_any _ _ _ _ _ _ _).mono ?_; rintro e w2 ⟨rfl, hb⟩
                 have r0 : w2.cell? ⟨b, o + m * 3, none⟩ = some (.int .u8 k2) := (hb.cell (p := ⟨b, o + m * 3, none⟩) hbw).trans f1
                 have r1 : w2.cell? ⟨b, o + m * 3 + 1, none⟩ = some (.int .i16 y2) := (hb.cell (p := ⟨b, o + m * 3 + 1, none⟩) hbw).trans f2
                 have r2 : w2.cell? ⟨b, o + m * 3 + 2, none⟩ = some (.int .i16 n2) := (hb.cell (p := ⟨b, o + m * 3 + 2, none⟩) hbw).trans f3
                 have r3 : w2.cell? ⟨wr.heap.size, 0, none⟩ = some (.int .u8 k1) := (hb.cell (p := ⟨wr.heap.size, 0, none⟩) hbw2).trans d0
                 have r4 : w2.cell? ⟨wr.heap.size, 1, none⟩ = some (.int .i16 y1) := (hb.cell (p := ⟨wr.heap.size, 1, none⟩) hbw2).trans d1
                 have r5 : w2.cell? ⟨wr.heap.size, 2, none⟩ = some (.int .i16 n1) := (hb.cell (p := ⟨wr.heap.size, 2, none⟩) hbw2).trans d2
                 have r6 : Below w1.heap.size w1 w2 := hs0.drew.trans (hb.mono (Nat.le_refl _))))
          have HR2 : Hid (Below w1.heap.size w1 w2) := (by assumption : Below w1.heap.size w1 w2)
          by_cases hc : cmpB (k2, y2) (k1, y1) < 0
          · have hcd : decide (0 ≤ cmpB (k2, y2) (k1, y1)) = false := by simp; omega
            go_wp2
            go_roundw
            case rel => exact ⟨k + 1, by omega, by go_num, HT.out.step HX.out hvw.out (by subst hmk; rw [upAt_succ HY.out]; simpa using hc), HB1.out.trans (HR2.out.mono HB1.out.size)⟩
            case measure => simp [intOf]; omega
          · have hcd : decide (0 ≤ cmpB (k2, y2) (k1, y1)) = true := by simp; omega
            go_wp2
            go_ret
            exact ⟨ret_bool (ordOk_down HX.out (by subst hmk; rw [upAt_succ HY.out]; simpa using hc)).symm, HB1.out.trans (HR2.out.mono HB1.out.size)⟩
    · obtain rfl : k = xs.length := by omega
      go_wp2
      go_ret
      exact ⟨ret_bool (by rw [HT.out.all]; simp; omega), HB.out⟩
end Go.Proofs.YtkehmelcecifdaaDoor
