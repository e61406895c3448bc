/-
  The contracts of eqBottle and eqCrate at equal arguments. No condition but the crate's length.
-/
import Derived.Test.YtcdhmlalpjcidaaDoorV
import Derived.Deep.RegionHeld3
namespace Go.Proofs.YtcdhmlalpjcidaaDoor
open Go.ChangeShapes Go.WideShapes Go.ChangeAt Go.RowKit

theorem eqBottle_same (k y : Int) (w : World) : Calls Tryd.prog 10 #[.agg #[.int .u8 k, .int .i16 y], .agg #[.int .u8 k, .int .i16 y]] w fun e w' => e = .returned (.bool true) ∧ Below w.heap.size w w' := by
  go_enter Tryd.func10, Tryd.ntmps10
  go_wp2
  go_ret
  exact ⟨rfl, (by repeat (first | exact Below.refl _ _ | refine Below.drew ?_ | refine Below.alloc ?_ (by simp <;> omega) _ | refine Below.setCell ?_ (by simp <;> omega) _))⟩

theorem keptEq {W0 w1 w2 : World} {B k : Nat} {x y : Int} (hB : B + 1 < W0.heap.size) (h : Below W0.heap.size W0 w1) (hb : Below w1.heap.size w1 w2)
    (a0 : w1.cell? ⟨B, k * 2, none⟩ = some (.int .u8 x)) (a1 : w1.cell? ⟨B, k * 2 + 1, none⟩ = some (.int .i16 y)) (b0 : w1.cell? ⟨B + 1, k * 2, none⟩ = some (.int .u8 x)) (b1 : w1.cell? ⟨B + 1, k * 2 + 1, none⟩ = some (.int .i16 y)) :
    w2.cell? ⟨B, k * 2, none⟩ = some (.int .u8 x) ∧ w2.cell? ⟨B, k * 2 + 1, none⟩ = some (.int .i16 y) ∧ w2.cell? ⟨B + 1, k * 2, none⟩ = some (.int .u8 x) ∧ w2.cell? ⟨B + 1, k * 2 + 1, none⟩ = some (.int .i16 y) ∧ Below W0.heap.size W0 w2 := by
  have hs := h.size
  exact ⟨(hb.cell (p := ⟨B, k * 2, none⟩) (by show B < _; omega)).trans a0, (hb.cell (p := ⟨B, k * 2 + 1, none⟩) (by show B < _; omega)).trans a1, (hb.cell (p := ⟨B + 1, k * 2, none⟩) (by show B + 1 < _; omega)).trans b0,
    (hb.cell (p := ⟨B + 1, k * 2 + 1, none⟩) (by show B + 1 < _; omega)).trans b1, h.trans (hb.mono hs)⟩

set_option maxRecDepth 100000 in
set_option maxHeartbeats 4000000 in
theorem eqCrate_same (bs : List Bot) (hwf : WfC bs) (w : World) : Calls Tryd.prog 49 #[.agg (ccells bs).toArray, .agg (ccells bs).toArray] w fun e w' => e = .returned (.bool true) ∧ Below w.heap.size w w' := by
  have HW := Lib.hid hwf
  clear hwf
  go_enter Tryd.func49, Tryd.ntmps49
  go_wp2_with fail
  go_loopw [5] (fun i wr => ∃ k : Nat, k ≤ 12 ∧ i = .int .i64 k ∧ CBlk wr w.heap.size 30 bs ∧ CBlk wr (w.heap.size + 1) 30 bs ∧ Below w.heap.size w wr) (fun i _ => 12 - (intOf i).toNat)
  case atStart =>
    refine ⟨0, by omega, rfl, (CBlk.new w _ bs).alloc _, ?_, (by repeat (first | exact Below.refl _ _ | refine Below.drew ?_ | refine Below.alloc ?_ (by simp <;> omega) _ | refine Below.setCell ?_ (by simp <;> omega) _))⟩
    exact CBlk.new' (by simp) rfl
  case round =>
    obtain ⟨k, hk, rfl, hA, hC, hB⟩ := hrel
    have HA := Lib.hid hA
    have HC := Lib.hid hC
    have HB := Lib.hid hB
    clear hA hC hB
    by_cases hlt : k < 12
    · obtain ⟨x, y, hbk, _, _⟩ := HW.out.at_ hlt
      have e1 := HA.out.kind' hbk
      have e2 := HA.out.year' hbk
      have f1 := HC.out.kind' hbk
      have f2 := HC.out.year' hbk
      have hsz : w.heap.size + 1 < wr.heap.size := HC.out.lt
      have hl1 : (k : Int) < 12 := by omega
      have hl0 : (0 : Int) ≤ k := by omega
      clear hbk
      have hs0 : Below wr.heap.size wr wr := Below.refl _ _
      go_wp2_with fail
      go_region_held3 (fun w' => w'.cell? ⟨w.heap.size, k * 2, none⟩ = some (.int .u8 x) ∧ w'.cell? ⟨w.heap.size, k * 2 + 1, none⟩ = some (.int .i16 y) ∧ w'.cell? ⟨w.heap.size + 1, k * 2, none⟩ = some (.int .u8 x) ∧ w'.cell? ⟨w.heap.size + 1, k * 2 + 1, none⟩ = some (.int .i16 y) ∧ Below wr.heap.size wr w') ((refine ⟨?_, ?_, ?_, ?_, ?_⟩ <;> (first | assumption | exact Below.drew ‹_› | (simp [*]; done))))
        (first
          | (go_at_call 10; refine (eqBottle_same _ _ _).mono ?_; rintro e w2 ⟨rfl, hb⟩; obtain ⟨r0, r1, r2, r3, r4⟩ := keptEq hsz (by first | assumption | exact Below.drew (by assumption)) hb (by assumption) (by assumption) (by assumption) (by assumption)))
      have HR : Hid (Below wr.heap.size wr w2) := (by assumption : Below wr.heap.size wr w2)
      go_wp2
      go_roundw
      case rel => exact ⟨k + 1, by omega, by go_num, HA.out.below HR.out HA.out.lt, HC.out.below HR.out HC.out.lt, HB.out.trans (HR.out.mono HB.out.size)⟩
      case measure => simp [intOf]; omega
    · obtain rfl : k = 12 := by omega
      go_wp2
      go_ret
      exact ⟨rfl, HB.out⟩
end Go.Proofs.YtcdhmlalpjcidaaDoor
