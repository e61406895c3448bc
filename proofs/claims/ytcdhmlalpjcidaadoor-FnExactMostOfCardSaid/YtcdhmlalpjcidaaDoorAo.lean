/-
  All bottles of a crate; the contract of the model's l01All. No condition but the crate's length and that its numbers fit their kinds.
-/
import Derived.Test.YtcdhmlalpjcidaaDoorM
import Derived.Test.YtcdhmlalpjcidaaDoorV
import Derived.Test.YtcdhmlalpjcidaaDoorMg2
import Derived.OwnWalk
import Derived.Laws.AppendOwn
import Derived.Laws.MakeOwn
import Derived.Maps.AppendAt
namespace Go.Proofs.YtcdhmlalpjcidaaDoor
open Go.ChangeShapes Go.WideShapes Go.ChangeAt Go.RowKit

theorem Tryd.infoBt : (Tryd.prog.info? 26).map (fun i => (i.zero, i.size, i.bytes)) = some (some (.agg #[.int .u8 0, .int .i16 0]), 2, 4) := by kernel_rfl
/-- All bottles in the first k places. -/
def allB (bs : List Bot) (k : Nat) : List Bot := (usedN bs (fun b => !eB b) k).map fun j => bs.getD j (0, 0)
theorem allB_yes {bs : List Bot} {k : Nat} {b : Bot} (h : bs[k]? = some b) (he : eB b = false) : allB bs (k + 1) = allB bs k ++ [b] := by
  have : (bs[k]?.any fun b => !eB b) = true := by rw [h]; simp [he]
  simp [allB, usedN_yes this, h]
theorem allB_no {bs : List Bot} {k : Nat} {b : Bot} (h : bs[k]? = some b) (he : eB b = true) : allB bs (k + 1) = allB bs k := by
  have : (bs[k]?.any fun b => !eB b) = false := by rw [h]; simp [he]
  simp [allB, usedN_no this]
theorem allB_length (bs : List Bot) (k : Nat) : (allB bs k).length ≤ k := by rw [allB, List.length_map]; exact usedN_length _ _ _
theorem ccells_snoc (X : List Bot) (b : Bot) : ccells (X ++ [b]) = ccells X ++ [.int .u8 b.1, .int .i16 b.2] := by simp [ccells, bcells]
theorem cell_two_new (W : World) (u v : Value) (t : TypeId) : ∀ (j : Nat) (x : Value), [u, v][j]? = some x → (W.alloc (.cells #[u, v] t)).cell? ((⟨W.heap.size, 0, none⟩ : Addr).add j) = some x := by
  intro j x hx
  have h := new_cell2 W u v t
  match j, hx with
  | 0, hx => simp at hx; subst hx; exact h.1
  | 1, hx => simp at hx; subst hx; simp [Addr.add]
theorem two_one (k y : Int) : ∀ u ∈ [Value.int .u8 k, Value.int .i16 y], u.oneCell' = true := by
  intro u hu
  simp only [List.mem_cons, List.not_mem_nil, or_false] at hu
  rcases hu with rfl | rfl <;> rfl

set_option maxHeartbeats 2000000 in
set_option maxRecDepth 100000 in
theorem l01All_any (bs : List Bot) (hwf : WfC bs) (B : Nat) (w : World) (hB : CBlk w B 30 bs) :
    Calls Tryd.prog 36 #[.pointer (some ⟨B, 0, none⟩)] w fun e w' => ∃ v, e = .returned v ∧ w'.ownsRow w.heap.size 26 2 v (allB bs 12).length (ccells (allB bs 12)) ∧ Below w.heap.size w w' := by
  have HB := Lib.hid hB
  have HW := Lib.hid hwf
  clear hB hwf
  go_enter Tryd.func36, Tryd.ntmps36
  obtain ⟨i0, hi, hz0, hz1, hz2⟩ := info_parts Tryd.infoBt
  have HI := Lib.hid hi
  have HZ0 := Lib.hid hz0
  have HZ1 := Lib.hid hz1
  have HZ2 := Lib.hid hz2
  clear hi hz0 hz1 hz2
  go_wp2_with fail
  go_loopw [3, 4] (fun v i wr => ∃ k : Nat, k ≤ 12 ∧ i = .int .i64 k ∧ wr.ownsRow w.heap.size 26 2 v (allB bs k).length (ccells (allB bs k)) ∧ Below w.heap.size w wr) (fun _ i _ => 12 - (intOf i).toNat)
  case atStart =>
    refine ⟨0, by omega, rfl, ⟨rfl, .inr ⟨w.heap.size, 0, #[], rfl, Nat.le_refl _, heap_alloc_new w _, Nat.le_refl _, by unfold maxLen; omega, rfl, rfl⟩⟩, (by repeat (first | exact Below.refl _ _ | refine Below.drew ?_ | refine Below.alloc ?_ (by simp <;> omega) _ | refine Below.setCell ?_ (by simp <;> omega) _))⟩
  case round =>
    obtain ⟨k, hk, rfl, hown, hb⟩ := hrel
    have HO := Lib.hid hown
    have Hb := Lib.hid hb
    clear hown hb
    by_cases hlt : k < 12
    · obtain ⟨k1, y1, hbk, wk, wy⟩ := HW.out.at_ hlt
      have Hk := Lib.hid hbk
      clear hbk
      have e1 := (HB.out.below Hb.out HB.out.lt).kind' Hk.out
      have e2 := (HB.out.below Hb.out HB.out.lt).year' Hk.out
      go_wp2_with fail
      refine (l01Free_any _ _ _).mono ?_
      rintro e w1 ⟨rfl, hb1⟩
      have Hb1 := Lib.hid hb1
      have HB1 : Hid (Below w.heap.size w w1) := Hb.out.trans (hb1.mono Hb.out.size)
      have HO1 : Hid (w1.ownsRow w.heap.size 26 2 _ (allB bs k).length (ccells (allB bs k))) := HO.out.kept (grown_of_below hb1) (Classical.em _)
      clear hb1 e1 e2
      cases hE : eB (k1, y1)
      · have HE := Lib.hid hE
        clear hE
        have hlen := allB_length bs k
        have g1 := (HB.out.below HB1.out HB.out.lt).kind' Hk.out
        have g2 := (HB.out.below HB1.out HB.out.lt).year' Hk.out
        go_wp2_with (at_builtin; refine wpList_append_own _ rfl (.tmp 17) (.tmp 23) 40 rfl w.heap.size 26 i0 (.agg #[.int .u8 0, .int .i16 0]) 2 4 Tryd.underlying40 HI.out HZ0.out HZ1.out HZ2.out rfl (by decide) _ _ _ rfl (HO1.out.alloc _) ⟨w1.heap.size, 0, none⟩ 1 1 [.int .u8 k1, .int .i16 y1] rfl rfl ?c1 ?c2 ?c3 ?c4 ?c5 ?_)
        case c1 => exact cell_two_new _ _ _ _
        case c2 => exact two_one _ _
        case c3 => unfold maxLen; omega
        case c4 => omega
        case c5 => have := HB1.out.size; simp; omega
        intro v' w2 hown' hgrow _
        have HO2 := Lib.hid hown'
        have HB2 : Hid (Below w.heap.size w w2) := (HB1.out.alloc HB1.out.size _).grown hgrow (by have := HB1.out.size; simp; omega) (fun r e => (HO1.out.lt r e).1)
        clear hown' hgrow g1 g2
        go_wp2
        go_roundw
        case rel => exact ⟨k + 1, by omega, by go_num, by rw [allB_yes Hk.out HE.out, ccells_snoc, List.length_append]; exact HO2.out, HB2.out⟩
        case measure => simp [intOf]; omega
      · have HE := Lib.hid hE
        clear hE
        go_wp2
        go_roundw
        case rel => exact ⟨k + 1, by omega, by go_num, by rw [allB_no Hk.out HE.out]; exact HO1.out, HB1.out⟩
        case measure => simp [intOf]; omega
    · obtain rfl : k = 12 := by omega
      go_wp2
      go_ret
      exact ⟨_, rfl, HO.out, Hb.out⟩

end Go.Proofs.YtcdhmlalpjcidaaDoor
