/-
  A crate in a list: its cells. No condition.
-/
import Derived.Test.YtkehmelcecifdaaDoorV
import Derived.Deep.RegionHeld3
import Derived.Test.YtkehmelcecifdaaDoorFlat
namespace Go.Proofs.YtkehmelcecifdaaDoor
open Go.ChangeShapes Go.WideShapes Go.ChangeAt Go.RowKit

theorem eqBottle_same (k y : Int) (w : World) : Calls Tryd.prog 48 #[.agg #[.int .u8 k, .int .i16 y], .agg #[.int .u8 k, .int .i16 y]] w fun e w' => e = .returned (.bool true) ∧ Below w.heap.size w w' := by
  go_enter Tryd.func48, Tryd.ntmps48
  go_wp2
  go_ret
  exact ⟨rfl, (by repeat (first | exact Below.refl _ _ | refine Below.drew ?_ | refine Below.alloc ?_ (by simp <;> omega) _ | refine Below.setCell ?_ (by simp <;> omega) _))⟩

theorem keptEq {W0 w1 w2 : World} {B k : Nat} {x y : Int} (hB : B + 1 < W0.heap.size) (h : Below W0.heap.size W0 w1) (hb : Below w1.heap.size w1 w2)
    (a0 : w1.cell? ⟨B, k * 2, none⟩ = some (.int .u8 x)) (a1 : w1.cell? ⟨B, k * 2 + 1, none⟩ = some (.int .i16 y)) (b0 : w1.cell? ⟨B + 1, k * 2, none⟩ = some (.int .u8 x)) (b1 : w1.cell? ⟨B + 1, k * 2 + 1, none⟩ = some (.int .i16 y)) :
    w2.cell? ⟨B, k * 2, none⟩ = some (.int .u8 x) ∧ w2.cell? ⟨B, k * 2 + 1, none⟩ = some (.int .i16 y) ∧ w2.cell? ⟨B + 1, k * 2, none⟩ = some (.int .u8 x) ∧ w2.cell? ⟨B + 1, k * 2 + 1, none⟩ = some (.int .i16 y) ∧ Below W0.heap.size W0 w2 := by
  have hs := h.size
  exact ⟨(hb.cell (p := ⟨B, k * 2, none⟩) (by show B < _; omega)).trans a0, (hb.cell (p := ⟨B, k * 2 + 1, none⟩) (by show B < _; omega)).trans a1, (hb.cell (p := ⟨B + 1, k * 2, none⟩) (by show B + 1 < _; omega)).trans b0,
    (hb.cell (p := ⟨B + 1, k * 2 + 1, none⟩) (by show B + 1 < _; omega)).trans b1, h.trans (hb.mono hs)⟩

set_option maxRecDepth 100000 in
set_option maxHeartbeats 4000000 in
theorem eqCrate_same (bs : List Bot) (hwf : WfC bs) (w : World) : Calls Tryd.prog 67 #[.agg (ccells bs).toArray, .agg (ccells bs).toArray] w fun e w' => e = .returned (.bool true) ∧ Below w.heap.size w w' := by
  have HW := Lib.hid hwf
  clear hwf
  go_enter Tryd.func67, Tryd.ntmps67
  go_wp2_with fail
  go_loopw [5] (fun i wr => ∃ k : Nat, k ≤ 12 ∧ i = .int .i64 k ∧ CBlk wr w.heap.size 109 bs ∧ CBlk wr (w.heap.size + 1) 109 bs ∧ Below w.heap.size w wr) (fun i _ => 12 - (intOf i).toNat)
  case atStart =>
    refine ⟨0, by omega, rfl, (CBlk.new w _ bs).alloc _, ?_, (by repeat (first | exact Below.refl _ _ | refine Below.drew ?_ | refine Below.alloc ?_ (by simp <;> omega) _ | refine Below.setCell ?_ (by simp <;> omega) _))⟩
    exact CBlk.new' (by simp) rfl
  case round =>
    obtain ⟨k, hk, rfl, hA, hC, hB⟩ := hrel
    have HA := Lib.hid hA
    have HC := Lib.hid hC
    have HB := Lib.hid hB
    clear hA hC hB
    by_cases hlt : k < 12
    · obtain ⟨x, y, hbk, _, _⟩ := HW.out.at_ hlt
      have e1 := HA.out.kind' hbk
      have e2 := HA.out.year' hbk
      have f1 := HC.out.kind' hbk
      have f2 := HC.out.year' hbk
      have hsz : w.heap.size + 1 < wr.heap.size := HC.out.lt
      have hl1 : (k : Int) < 12 := by omega
      have hl0 : (0 : Int) ≤ k := by omega
      clear hbk
      have hs0 : Below wr.heap.size wr wr := Below.refl _ _
      go_wp2_with fail
      go_region_held3 (fun w' => w'.cell? ⟨w.heap.size, k * 2, none⟩ = some (.int .u8 x) ∧ w'.cell? ⟨w.heap.size, k * 2 + 1, none⟩ = some (.int .i16 y) ∧ w'.cell? ⟨w.heap.size + 1, k * 2, none⟩ = some (.int .u8 x) ∧ w'.cell? ⟨w.heap.size + 1, k * 2 + 1, none⟩ = some (.int .i16 y) ∧ Below wr.heap.size wr w') ((refine ⟨?_, ?_, ?_, ?_, ?_⟩ <;> (first | assumption | exact Below.drew ‹_› | (simp [*]; done))))
        (first
          | (go_at_call 48; refine (eqBottle_same _ _ _).mono ?_; rintro e w2 ⟨rfl, hb⟩; obtain ⟨r0, r1, r2, r3, r4⟩ := keptEq hsz (by first | assumption | exact Below.drew (by assumption)) hb (by assumption) (by assumption) (by assumption) (by assumption)))
      have HR : Hid (Below wr.heap.size wr w2) := (by assumption : Below wr.heap.size wr w2)
      go_wp2
      go_roundw
      case rel => exact ⟨k + 1, by omega, by go_num, HA.out.below HR.out HA.out.lt, HC.out.below HR.out HC.out.lt, HB.out.trans (HR.out.mono HB.out.size)⟩
      case measure => simp [intOf]; omega
    · obtain rfl : k = 12 := by omega
      go_wp2
      go_ret
      exact ⟨rfl, HB.out⟩
end Go.Proofs.YtkehmelcecifdaaDoor

namespace Go.Proofs.YtkehmelcecifdaaDoor
open Go.ChangeShapes Go.WideShapes Go.ChangeAt Go.RowKit Go.Deep

/-- A crate: twelve bottles whose numbers fit their kinds. -/
abbrev Crt := { bs : List Bot // WfC bs }
def kcells (x : Crt) : List Value := ccells x.1
theorem kcells_length (x : Crt) : (kcells x).length = 24 := by simp [kcells, ccells_length, x.2.1]
theorem kcells_one (x : Crt) : (kcells x).toArray.all (·.oneCell') = true := ccells_one x.1
theorem wfNo : WfC noB := ⟨rfl, by intro b hb; simp [noB] at hb; subst hb; simp [wfB]⟩
theorem size_k {P : Program} {t : TypeId} (h : (P.info? t).map (·.size) = some 24) (x : Crt) : (P.info? t).map (·.size) = some (kcells x).length := by rw [kcells_length]; exact h
theorem size_k' {P : Program} {t : TypeId} (h : (P.info? t).map (·.size) = some 24) (x : Crt) : (P.info? t).map (·.size) = some (kcells x).toArray.size := by rw [List.size_toArray, kcells_length]; exact h
def zCrt : Crt := ⟨noB, wfNo⟩
theorem bots_of : ∀ (n : Nat) (cs : List Value), FitsL (List.replicate n [IntKind.u8, IntKind.i16]).flatten cs → ∃ bs : List Bot, bs.length = n ∧ cs = ccells bs ∧ ∀ b ∈ bs, wfB b
  | 0, cs, h => by
    have : cs = [] := by
      cases cs with
      | nil => rfl
      | cons c cs => exact h.elim
    subst this
    exact ⟨[], rfl, rfl, by simp⟩
  | n + 1, cs, h => by
    rw [List.replicate_succ, List.flatten_cons] at h
    obtain ⟨c1, c2, rfl, h1, h2⟩ := FitsL.split h
    obtain ⟨bs, hl, rfl, hwf⟩ := bots_of n c2 h2
    match c1, h1.length, h1 with
    | [d0, d1], _, h1 =>
      obtain ⟨⟨k, rfl, hk⟩, ⟨y, rfl, hy⟩, _⟩ := h1
      have hk := wf_u8 hk
      have hy := wf_i16 hy
      refine ⟨(k, y) :: bs, by simp [hl], rfl, fun b hb => ?_⟩
      rcases List.mem_cons.1 hb with rfl | hb
      · exact ⟨hk.1, hk.2, hy.1, hy.2⟩
      · exact hwf b hb
theorem kcells_of (cs : List Value) (h : FitsL (List.replicate 12 [IntKind.u8, IntKind.i16]).flatten cs) : ∃ b : Crt, True ∧ cs = kcells b := by
  obtain ⟨bs, hl, hc, hwf⟩ := bots_of 12 cs h
  exact ⟨⟨bs, hl, hwf⟩, trivial, hc⟩
theorem Tryd.flatBL : FlatT Tryd.prog 78 [.u8, .i16] :=
  flat_struct (fs := [_, _]) (kss := [[.u8], [.i16]]) Tryd.underlying78 (by kernel_rfl) ⟨by kernel_rfl, rfl, .int Tryd.underlying5, by kernel_rfl, rfl, .int Tryd.underlying74, trivial⟩
theorem Tryd.flatCL : FlatT Tryd.prog 111 (List.replicate 12 [IntKind.u8, IntKind.i16]).flatten :=
  .arr Tryd.underlying111 (by kernel_rfl) (by kernel_rfl) Tryd.flatBL
theorem Tryd.cellsCL : Tryd.prog.cellsOf 111 = 24 := by kernel_rfl
theorem Tryd.sizeLc : (Tryd.prog.info? 111).map (·.size) = some 24 := by kernel_rfl
theorem Tryd.infoCr : (Tryd.prog.info? 109).map (fun i => (i.zero, i.size, i.bytes)) = some (some (.agg #[.int .u8 0, .int .i16 0, .int .u8 0, .int .i16 0, .int .u8 0, .int .i16 0, .int .u8 0, .int .i16 0, .int .u8 0, .int .i16 0, .int .u8 0, .int .i16 0, .int .u8 0, .int .i16 0, .int .u8 0, .int .i16 0, .int .u8 0, .int .i16 0, .int .u8 0, .int .i16 0, .int .u8 0, .int .i16 0, .int .u8 0, .int .i16 0]), 24, 48) := by kernel_rfl
end Go.Proofs.YtkehmelcecifdaaDoor
