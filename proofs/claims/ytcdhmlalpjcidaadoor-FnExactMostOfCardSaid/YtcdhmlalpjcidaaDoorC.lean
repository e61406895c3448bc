/-
  The contract of toCrate: it copies a crate. No condition but the crate's length.
-/
import Derived.Test.YtcdhmlalpjcidaaDoorL
import Derived.WalkKit
import Derived.Lib.Hide
namespace Go.Proofs.YtcdhmlalpjcidaaDoor
open Go.ChangeShapes Go.WideShapes Go.ChangeAt Go.RowKit

def noB : List Bot := [(0, 0), (0, 0), (0, 0), (0, 0), (0, 0), (0, 0), (0, 0), (0, 0), (0, 0), (0, 0), (0, 0), (0, 0)]
theorem Tryd.sizeCr : (Tryd.prog.info? 30).map (·.size) = some 24 := by kernel_rfl
theorem size_of_crate {P : Program} {t : TypeId} (h : (P.info? t).map (·.size) = some 24) (X : List Bot) (hl : X.length = 12) : (P.info? t).map (·.size) = some (ccells X).toArray.size := by rw [ccells_size X hl]; exact h

/-- What stands between two rounds of toCrate. -/
def TC (bs : List Bot) (w : World) (k : Nat) (X : List Bot) (wr : World) : Prop :=
  X.length = 12 ∧ (∀ j, j < k → X[j]? = bs[j]?) ∧ CBlk wr w.heap.size 25 bs ∧ CBlk wr (w.heap.size + 1 + 1) 30 X ∧ CBlk wr (w.heap.size + 1) 30 noB ∧ Below w.heap.size w wr
theorem TC.step {bs : List Bot} {w wr w1 : World} {k : Nat} {X : List Bot} (h : TC bs w k X wr) (hl : bs.length = 12) (hk : k < 12) (hb : Below wr.heap.size wr w1) :
    TC bs w (k + 1) (X.set k (bs[k]'(by omega))) ((w1.setCell ⟨w.heap.size + 1 + 1, k * 2, none⟩ (.int .u8 (bs[k]'(by omega)).1)).setCell ⟨w.heap.size + 1 + 1, k * 2 + 1, none⟩ (.int .i16 (bs[k]'(by omega)).2)) := by
  obtain ⟨hX, hj, hA, hO, hR, hB⟩ := h
  have s0 := hO.lt
  refine ⟨by simp [hX], fun j hjk => ?_, ?_, ?_, ?_, ?_⟩
  · by_cases e : j = k
    · subst e
      rw [List.getElem?_set_self (by omega), List.getElem?_eq_getElem (by omega)]
    · rw [List.getElem?_set_ne (by omega)]
      exact hj j (by omega)
  · exact ((hA.below hb hA.lt).other (by omega) _ _).other (by omega) _ _
  · exact (hO.below hb hO.lt).set k (by omega) _
  · exact ((hR.below hb hR.lt).other (by omega) _ _).other (by omega) _ _
  · exact ((hB.trans (hb.mono hB.size)).setCell (p := ⟨w.heap.size + 1 + 1, k * 2, none⟩) (by show w.heap.size ≤ w.heap.size + 1 + 1; omega) _).setCell (p := ⟨w.heap.size + 1 + 1, k * 2 + 1, none⟩) (by show w.heap.size ≤ w.heap.size + 1 + 1; omega) _

set_option maxHeartbeats 1000000 in
theorem toCrate_any (bs : List Bot) (hl : bs.length = 12) (w : World) : Calls Tryd.prog 8 #[.agg (ccells bs).toArray] w fun e w' => e = .returned (.agg (ccells bs).toArray) ∧ Below w.heap.size w w' := by
  have HL := Lib.hid hl
  clear hl
  go_enter Tryd.func8, Tryd.ntmps8
  go_wp2_with fail
  go_loopw [4] (fun i wr => ∃ (k : Nat), k ≤ 12 ∧ i = .int .i64 k ∧ ∃ X, TC bs w k X wr)
    (fun i _ => 12 - (intOf i).toNat)
  case atStart =>
    refine ⟨0, by omega, rfl, noB, rfl, fun j h => by omega, ((CBlk.new w 25 bs).alloc _).alloc _, ?_, ?_, (by repeat (first | exact Below.refl _ _ | refine Below.drew ?_ | refine Below.alloc ?_ (by simp <;> omega) _ | refine Below.setCell ?_ (by simp <;> omega) _))⟩
    · exact CBlk.new' (by simp) rfl
    · refine CBlk.alloc ?_ _
      exact CBlk.new' (by simp) rfl
  case round =>
    obtain ⟨k, hk, rfl, X, hT⟩ := hrel
    have HT := Lib.hid hT
    clear hT
    by_cases hlt : k < 12
    · have e1 := HT.out.2.2.1.kind k (by rw [HL.out]; exact hlt)
      have e2 := HT.out.2.2.1.year k (by rw [HL.out]; exact hlt)
      go_wp2_with fail
      refine (toBottle_any _ _ _).mono ?_
      rintro e w1 ⟨rfl, hb1⟩
      have HB := Lib.hid hb1
      clear hb1
      have hO := HT.out.2.2.2.1.below HB.out HT.out.2.2.2.1.lt
      have f1 := hO.kind k (by rw [HT.out.1]; exact hlt)
      have f2 := hO.year k (by rw [HT.out.1]; exact hlt)
      have f3 := hO.frozen (k * 2)
      have f4 := hO.frozen (k * 2 + 1)
      clear hO e1 e2
      go_wp2
      go_roundw
      case rel => exact ⟨k + 1, by omega, by go_num, _, HT.out.step HL.out hlt HB.out⟩
      case measure => simp [intOf]; omega
    · obtain rfl : k = 12 := by omega
      obtain ⟨hX, hj, hA, hO, hR, hB⟩ := HT.out
      obtain rfl : X = bs := list_eq_of hX HL.out hj
      clear hj
      have HB := Lib.hid hB
      clear hB
      go_wp2_with (first
        | (refine wpList_load_row rfl 30 (.tmp 3) rfl (w.heap.size + 1 + 1) rfl 30 _ (0, 0) _ hO Tryd.underlying30 rfl (size_of_crate Tryd.sizeCr _ HL.out) ?_)
        | (refine wpList_store_row rfl 30 (.tmp 2) (.tmp 15) rfl (w.heap.size + 1) _ rfl rfl 30 _ hR (size_of_crate Tryd.sizeCr _ HL.out) (by rw [ccells_size _ HL.out]; rfl) (ccells_one _) ?_))
      have hR' : CBlk (wr.setRow (w.heap.size + 1) (ccells X).toArray) (w.heap.size + 1) 30 X := hR.setRow
      exact bodyPost_ret (v := .agg (ccells X).toArray) (results_cell_row rfl _ _ _ 30 _ (0, 0) _ rfl hR' Tryd.underlying30 rfl (size_of_crate Tryd.sizeCr _ HL.out)) rfl ⟨rfl, Below.setRow HB.out _ _ (by omega)⟩
end Go.Proofs.YtcdhmlalpjcidaaDoor
