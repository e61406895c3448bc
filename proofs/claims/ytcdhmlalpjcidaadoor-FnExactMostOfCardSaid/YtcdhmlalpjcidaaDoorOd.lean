/-
  The contracts of ValidOrder, of the model and of the program. Condition: the list reads as wants whose numbers fit their kinds.
-/
import Derived.Test.YtcdhmlalpjcidaaDoorWb
import Derived.Test.YtcdhmlalpjcidaaDoorCm
import Derived.WalkSmall
import Derived.Deep.QuietTactic
import Derived.BigQuiet
namespace Go.Proofs.YtcdhmlalpjcidaaDoor
open Go.ChangeShapes Go.WideShapes Go.ChangeAt Go.RowKit Go.Deep

def vW (x : Wnt) : Bool := vB x.1 && (decide (1 ≤ x.2) && decide (x.2 ≤ 144))
def upAt (xs : List Wnt) (k : Nat) (x : Wnt) : Bool := match k with | 0 => true | m + 1 => match xs[m]? with | some y => decide (cmpB y.1 x.1 < 0) | none => true
def okAt (xs : List Wnt) (k : Nat) : Bool := match xs[k]? with | some x => vW x && upAt xs k x | none => true
/-- Is an order valid? -/
def ordOk (xs : List Wnt) : Bool := (List.range xs.length).all (okAt xs) && decide (xs.length ≤ 8)
def OrdTo (xs : List Wnt) (k : Nat) : Prop := ∀ j, j < k → okAt xs j = true
theorem OrdTo.step {xs : List Wnt} {k : Nat} (h : OrdTo xs k) {x : Wnt} (hx : xs[k]? = some x) (hv : vW x = true) (hu : upAt xs k x = true) : OrdTo xs (k + 1) := by
  intro j hj
  by_cases e : j = k
  · subst e; simp [okAt, hx, hv, hu]
  · exact h j (by omega)
theorem OrdTo.all {xs : List Wnt} (h : OrdTo xs xs.length) : ordOk xs = decide (xs.length ≤ 8) := by
  have : (List.range xs.length).all (okAt xs) = true := by
    rw [List.all_eq_true]; intro j hj; exact h j (by simpa using hj)
  simp [ordOk, this]
theorem ordOk_no {xs : List Wnt} {k : Nat} {x : Wnt} (hx : xs[k]? = some x) (h : (vW x && upAt xs k x) = false) : ordOk xs = false := by
  have hk : k < xs.length := (List.getElem?_eq_some_iff.1 hx).1
  have : (List.range xs.length).all (okAt xs) = false := by
    rw [List.all_eq_false]
    exact ⟨k, by simpa using hk, by simp [okAt, hx, h]⟩
  simp [ordOk, this]
theorem ordOk_bad {xs : List Wnt} {k : Nat} {x : Wnt} (hx : xs[k]? = some x) (h : vW x = false) : ordOk xs = false := ordOk_no hx (by simp [h])
theorem ordOk_down {xs : List Wnt} {k : Nat} {x : Wnt} (hx : xs[k]? = some x) (h : upAt xs k x = false) : ordOk xs = false := ordOk_no hx (by simp [h])
theorem upAt_succ {xs : List Wnt} {m : Nat} {x y : Wnt} (hy : xs[m]? = some y) : upAt xs (m + 1) x = decide (cmpB y.1 x.1 < 0) := by simp [upAt, hy]

theorem rowW {w : World} {b o : Nat} {k y n : Int} (h : w.rangeAt b o (wcells ((k, y), n))) : w.cell? ⟨b, o, none⟩ = some (.int .u8 k) ∧ w.cell? ⟨b, o + 1, none⟩ = some (.int .i16 y) ∧ w.cell? ⟨b, o + 2, none⟩ = some (.int .i16 n) :=
  ⟨h 0 _ rfl, h 1 _ rfl, h 2 _ rfl⟩
theorem keptW {W0 w1 w2 : World} {b o o' : Nat} {k y k' y' : Int} (hB : b < W0.heap.size) (h : Below W0.heap.size W0 w1) (hb : Below w1.heap.size w1 w2)
    (a0 : w1.cell? ⟨b, o, none⟩ = some (.int .u8 k)) (a1 : w1.cell? ⟨b, o + 1, none⟩ = some (.int .i16 y)) (b0 : w1.cell? ⟨b, o', none⟩ = some (.int .u8 k')) (b1 : w1.cell? ⟨b, o' + 1, none⟩ = some (.int .i16 y')) :
    w2.cell? ⟨b, o, none⟩ = some (.int .u8 k) ∧ w2.cell? ⟨b, o + 1, none⟩ = some (.int .i16 y) ∧ w2.cell? ⟨b, o', none⟩ = some (.int .u8 k') ∧ w2.cell? ⟨b, o' + 1, none⟩ = some (.int .i16 y') ∧ Below W0.heap.size W0 w2 := by
  have hs := h.size
  have hl : b < w1.heap.size := by omega
  exact ⟨(hb.cell (p := ⟨b, o, none⟩) hl).trans a0, (hb.cell (p := ⟨b, o + 1, none⟩) hl).trans a1, (hb.cell (p := ⟨b, o', none⟩) hl).trans b0, (hb.cell (p := ⟨b, o' + 1, none⟩) hl).trans b1, h.trans (hb.mono hs)⟩

set_option maxRecDepth 100000 in
set_option maxHeartbeats 2000000 in
theorem l02Ok_any (xs : List Wnt) (hwf : ∀ x ∈ xs, wfW x) (A : Option Addr) (c : Nat) (w : World) (hl : xs.length ≤ 1048576) (hr : Rd w w.heap.size wcells A xs) :
    Calls Tryd.prog 93 #[.slice A xs.length c] w fun e w' => e = .returned (.bool (ordOk xs)) ∧ Below w.heap.size w w' := by
  have HR := Lib.hid hr
  have HW := Lib.hid hwf
  clear hr hwf
  go_enter Tryd.func93, Tryd.ntmps93
  go_wp2_with fail
  go_loopw [3] (fun i wr => ∃ (k : Nat), k ≤ xs.length ∧ i = .int .i64 k ∧ OrdTo xs k ∧ Below w.heap.size w wr) (fun i _ => xs.length - (intOf i).toNat)
  case atStart => exact ⟨0, by omega, rfl, fun j h => by omega, Below.refl _ _⟩
  case round =>
    obtain ⟨k, hk, rfl, hT, hB⟩ := hrel
    have HT := Lib.hid hT
    have HB := Lib.hid hB
    clear hT hB
    by_cases hlt : k < xs.length
    · obtain ⟨⟨⟨k1, y1⟩, n1⟩, hx⟩ : ∃ x, xs[k]? = some x := ⟨_, List.getElem?_eq_getElem hlt⟩
      have hwx := HW.out _ (List.mem_of_getElem? hx)
      obtain ⟨b, o, rfl, hbl, hrow⟩ := (HR.out.below (Nat.le_refl _) HB.out).at_ wcells_length hx
      obtain ⟨e1, e2, e3⟩ := rowW hrow
      have HX := Lib.hid hx
      have HWX := Lib.hid hwx
      have HRow := Lib.hid hrow
      clear hx hwx hrow
      have hk0 : (0 : Int) ≤ (k : Int) := Int.natCast_nonneg _
      have hk8 : (k : Int) < xs.length := by omega
      have hn1 : -32768 ≤ n1 := HWX.out.2.1
      have hn2 : n1 ≤ 32767 := HWX.out.2.2
      go_wp2_with fail
      refine (l01Bottle_any _ _ ⟨HWX.out.1.1, HWX.out.1.2.1⟩ ⟨HWX.out.1.2.2.1, HWX.out.1.2.2.2⟩ _).mono ?_
      rintro e w1 ⟨rfl, hb1⟩
      have HB1 : Hid (Below w.heap.size w w1) := HB.out.trans (hb1.mono HB.out.size)
      have HRow1 : Hid (w1.rangeAt b (o + k * 3) (wcells ((k1, y1), n1))) := rangeAt_below HRow.out hb1 (Nat.lt_of_lt_of_le hbl HB.out.size)
      clear hb1 e1 e2 e3
      obtain ⟨e1, e2, e3⟩ := rowW HRow1.out
      cases hv : vB (k1, y1)
      · have HV := Lib.hid hv
        clear hv
        go_wp2
        go_ret
        exact ⟨ret_bool (ordOk_bad HX.out (by simp [vW, HV.out])).symm, HB1.out⟩
      · have HV := Lib.hid hv
        clear hv
        go_wp2_with fail
        refine (l00In_any _ _ _ _).mono ?_
        rintro e w1' ⟨rfl, rfl⟩
        cases hv2 : (decide (1 ≤ n1) && decide (n1 ≤ 144))
        · have HV2 := Lib.hid hv2
          clear hv2
          go_wp2
          go_ret
          exact ⟨ret_bool (ordOk_bad HX.out (by simp only [vW, HV.out, HV2.out]; rfl)).symm, HB1.out⟩
        · have HV2 := Lib.hid hv2
          clear hv2
          have hvw : Hid (vW ((k1, y1), n1) = true) := by show vW ((k1, y1), n1) = true; simp only [vW, HV.out, HV2.out]; rfl
          rcases Nat.eq_zero_or_pos k with rfl | hpos
          · skip
            go_wp2_with fail
            go_quiet (fail)
            go_wp2
            go_roundw
            case rel => exact ⟨0 + 1, by omega, by go_num, HT.out.step HX.out hvw.out rfl, below_drewN HB1.out _⟩
            case measure => simp [intOf]; omega
          · obtain ⟨m, hmk⟩ : ∃ m, m + 1 = k := ⟨k - 1, by omega⟩
            obtain ⟨⟨⟨k2, y2⟩, n2⟩, hy⟩ : ∃ y, xs[m]? = some y := ⟨_, List.getElem?_eq_getElem (by omega)⟩
            have hrow2 : w1.rangeAt b (o + m * 3) (wcells ((k2, y2), n2)) := by
              obtain ⟨b', o', e, _, h⟩ := (HR.out.below (Nat.le_refl _) HB1.out).at_ wcells_length hy
              cases e; exact h
            obtain ⟨f1, f2, _⟩ := rowW hrow2
            have HY := Lib.hid hy
            clear hy hrow2 e3
            have hsub : IntKind.i64.wrap ((k : Int) - 1) = (m : Int) := by
              rw [show (k : Int) - 1 = (m : Int) from by omega]
              exact IntWalk.i64_in _ ⟨by omega, by omega⟩
            have hsub' : wrap64 ((k : Int) - 1) = (m : Int) := by rw [show (k : Int) - 1 = (m : Int) from by omega]; exact IntWalk.wrap64_in _ ⟨by omega, by omega⟩
            have hm0 : (0 : Int) ≤ (m : Int) := Int.natCast_nonneg _
            have hm8 : (m : Int) < xs.length := by omega
            have hgt : (0 : Int) < (k : Int) := by omega
            have hbw : b < w1.heap.size := Nat.lt_of_lt_of_le hbl HB1.out.size
            have hs0 : Below w1.heap.size w1 w1 := Below.refl _ _
            go_wp2_with fail
            go_region_held3 (fun w' => w'.cell? ⟨b, o + m * 3, none⟩ = some (.int .u8 k2) ∧ w'.cell? ⟨b, o + m * 3 + 1, none⟩ = some (.int .i16 y2) ∧ w'.cell? ⟨b, o + k * 3, none⟩ = some (.int .u8 k1) ∧ w'.cell? ⟨b, o + k * 3 + 1, none⟩ = some (.int .i16 y1) ∧ Below w1.heap.size w1 w') ((refine ⟨?_, ?_, ?_, ?_, ?_⟩ <;> (first | assumption | exact Below.drew ‹_› | (simp [*]; done))))
              (first
                | (go_at_call 59; refine (specCmp_any _ _ _ _ _).mono ?_; rintro e w2 ⟨rfl, hb⟩; obtain ⟨r0, r1, r2, r3, r4⟩ := keptW (o := o + m * 3) (o' := o + k * 3) (k := k2) (y := y2) (k' := k1) (y' := y1) hbw (by first | assumption | exact Below.drew (by assumption)) hb (by assumption) (by assumption) (by assumption) (by assumption)))
            have HR2 : Hid (Below w1.heap.size w1 w2) := (by assumption : Below w1.heap.size w1 w2)
            by_cases hc : cmpB (k2, y2) (k1, y1) < 0
            · have hcd : decide (0 ≤ cmpB (k2, y2) (k1, y1)) = false := by simp; omega
              go_wp2
              go_roundw
              case rel => exact ⟨k + 1, by omega, by go_num, HT.out.step HX.out hvw.out (by subst hmk; rw [upAt_succ HY.out]; simpa using hc), HB1.out.trans (HR2.out.mono HB1.out.size)⟩
              case measure => simp [intOf]; omega
            · have hcd : decide (0 ≤ cmpB (k2, y2) (k1, y1)) = true := by simp; omega
              go_wp2
              go_ret
              exact ⟨ret_bool (ordOk_down HX.out (by subst hmk; rw [upAt_succ HY.out]; simpa using hc)).symm, HB1.out.trans (HR2.out.mono HB1.out.size)⟩
    · obtain rfl : k = xs.length := by omega
      go_wp2
      go_ret
      exact ⟨ret_bool (by rw [HT.out.all]; simp; try omega), HB.out⟩
end Go.Proofs.YtcdhmlalpjcidaaDoor
