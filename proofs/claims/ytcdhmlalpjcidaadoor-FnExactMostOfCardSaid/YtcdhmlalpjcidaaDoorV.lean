/-
  The contracts of the model's ValidCrate and of what it calls. No condition but the crate's length and that its numbers fit their kinds.
-/
import Derived.Test.YtcdhmlalpjcidaaDoorC
import Derived.WalkKit
import Derived.Lib.Hide
namespace Go.Proofs.YtcdhmlalpjcidaaDoor
open Go.ChangeShapes Go.WideShapes Go.ChangeAt Go.RowKit

/-- Is a place of a crate in order? -/
def okB (b : Bot) : Bool := eB b || vB b
/-- Is a crate valid? -/
def okC (bs : List Bot) : Bool := bs.all okB
def OkTo (bs : List Bot) (k : Nat) : Prop := ∀ j b, j < k → bs[j]? = some b → okB b = true
theorem OkTo.step {bs : List Bot} {k : Nat} (h : OkTo bs k) {b : Bot} (hb : bs[k]? = some b) (ho : okB b = true) : OkTo bs (k + 1) := by
  intro j c hj hc
  by_cases e : j = k
  · subst e; rw [hb] at hc; cases hc; exact ho
  · exact h j c (by omega) hc
theorem OkTo.all {bs : List Bot} (h : OkTo bs bs.length) : okC bs = true := by
  unfold okC
  rw [List.all_eq_true]
  intro b hb
  obtain ⟨j, hj, rfl⟩ := List.mem_iff_getElem.1 hb
  exact h j _ hj (List.getElem?_eq_getElem hj)
theorem okC_no {bs : List Bot} {k : Nat} {b : Bot} (hb : bs[k]? = some b) (ho : okB b = false) : okC bs = false := by
  unfold okC
  rw [List.all_eq_false]
  exact ⟨b, List.mem_of_getElem? hb, by simp [ho]⟩
def WfC (bs : List Bot) : Prop := bs.length = 12 ∧ ∀ b ∈ bs, wfB b
theorem WfC.at_ {bs : List Bot} (h : WfC bs) {k : Nat} (hk : k < 12) : ∃ k1 y1, bs[k]? = some (k1, y1) ∧ (0 ≤ k1 ∧ k1 ≤ 255) ∧ (-32768 ≤ y1 ∧ y1 ≤ 32767) := by
  have hk' : k < bs.length := by rw [h.1]; exact hk
  obtain ⟨a, b, c, d⟩ := h.2 _ (List.getElem_mem hk')
  exact ⟨bs[k].1, bs[k].2, List.getElem?_eq_getElem hk', ⟨a, b⟩, ⟨c, d⟩⟩
theorem CBlk.kind' {w : World} {B : Nat} {t : TypeId} {X : List Bot} (h : CBlk w B t X) {k : Nat} {k1 y1 : Int} (hk : X[k]? = some (k1, y1)) : w.cell? ⟨B, k * 2, none⟩ = some (.int .u8 k1) := by
  obtain ⟨hlt, he⟩ := List.getElem?_eq_some_iff.1 hk
  rw [h.kind k hlt, he]
theorem CBlk.year' {w : World} {B : Nat} {t : TypeId} {X : List Bot} (h : CBlk w B t X) {k : Nat} {k1 y1 : Int} (hk : X[k]? = some (k1, y1)) : w.cell? ⟨B, k * 2 + 1, none⟩ = some (.int .i16 y1) := by
  obtain ⟨hlt, he⟩ := List.getElem?_eq_some_iff.1 hk
  rw [h.year k hlt, he]

set_option maxHeartbeats 1000000 in
theorem l01Ok_any (bs : List Bot) (hwf : WfC bs) (B : Nat) (w : World) (hB : CBlk w B 30 bs) : Calls Tryd.prog 33 #[.pointer (some ⟨B, 0, none⟩)] w fun e w' => e = .returned (.bool (okC bs)) ∧ Below w.heap.size w w' := by
  have HB := Lib.hid hB
  have HW := Lib.hid hwf
  clear hB hwf
  go_enter Tryd.func33, Tryd.ntmps33
  go_wp2_with fail
  go_loopw [3] (fun i wr => ∃ k : Nat, k ≤ 12 ∧ i = .int .i64 k ∧ OkTo bs k ∧ Below w.heap.size w wr) (fun i _ => 12 - (intOf i).toNat)
  case atStart => exact ⟨0, by omega, rfl, fun j b h => by omega, Below.refl _ _⟩
  case round =>
    obtain ⟨k, hk, rfl, hT, hb⟩ := hrel
    have HT := Lib.hid hT
    have Hb := Lib.hid hb
    clear hT hb
    by_cases hlt : k < 12
    · obtain ⟨k1, y1, hbk, wk, wy⟩ := HW.out.at_ hlt
      have Hk := Lib.hid hbk
      clear hbk
      have e1 := (HB.out.below Hb.out HB.out.lt).kind' Hk.out
      have e2 := (HB.out.below Hb.out HB.out.lt).year' Hk.out
      go_wp2_with fail
      refine (l01Free_any _ _ _).mono ?_
      rintro e w1 ⟨rfl, hb1⟩
      have Hb1 := Lib.hid hb1
      clear hb1
      cases hE : eB (k1, y1)
      · have HE := Lib.hid hE
        clear hE
        clear e1 e2
        have g1 := (HB.out.below (Hb.out.trans (Hb1.out.mono Hb.out.size)) HB.out.lt).kind' Hk.out
        have g2 := (HB.out.below (Hb.out.trans (Hb1.out.mono Hb.out.size)) HB.out.lt).year' Hk.out
        go_wp2_with fail
        refine (l01Bottle_any _ _ wk wy _).mono ?_
        rintro e w2 ⟨rfl, hb2⟩
        have Hb2 := Lib.hid hb2
        clear hb2
        cases hV : vB (k1, y1)
        · have HV := Lib.hid hV
          clear hV
          go_wp2
          go_ret
          exact ⟨ret_bool (okC_no Hk.out (by rw [okB, HE.out, HV.out]; rfl)).symm, (Hb.out.trans (Hb1.out.mono Hb.out.size)).trans (Hb2.out.mono (Nat.le_trans Hb.out.size Hb1.out.size))⟩
        · have HV := Lib.hid hV
          clear hV
          go_wp2
          go_roundw
          case rel => exact ⟨k + 1, by omega, by go_num, HT.out.step Hk.out (by rw [okB, HV.out]; simp), (Hb.out.trans (Hb1.out.mono Hb.out.size)).trans (Hb2.out.mono (Nat.le_trans Hb.out.size Hb1.out.size))⟩
          case measure => simp [intOf]; omega
      · have HE := Lib.hid hE
        clear hE
        go_wp2
        go_roundw
        case rel => exact ⟨k + 1, by omega, by go_num, HT.out.step Hk.out (by rw [okB, HE.out]; simp), Hb.out.trans (Hb1.out.mono Hb.out.size)⟩
        case measure => simp [intOf]; omega
    · obtain rfl : k = 12 := by omega
      go_wp2
      go_ret
      exact ⟨ret_bool (OkTo.all (by rw [HW.out.1]; exact HT.out)).symm, Hb.out⟩

end Go.Proofs.YtcdhmlalpjcidaaDoor
