/-
  FnExactSameRow: for all arguments the law returns true, and they read as before. No condition.
-/
import Derived.Test.YtjiihdljchaeiaaRows
import Derived.Test.YtjiihdljchaeiaaFrame
import Derived.Test.YtjiihdljchaeiaaYs
import Derived.Test.YtjiihdljchaeiaaGk
namespace Go.Proofs.Ytjiihdljchaeiaa
open Go.ChangeShapes Go.WideShapes Go.ChangeAt Go.RowKit Go.Deep

set_option maxRecDepth 100000 in
set_option maxHeartbeats 4000000 in
theorem syLaw_any (r : List Int) (q : List Int) (A : Option Addr) (c : Nat) (B : Option Addr) (d : Nat) (w : World) (hl0 : r.length ≤ 9223372036854775807) (hr0 : Rd w w.heap.size ycells A r) (hw0 : ∀ x ∈ r, wfY x) (hl1 : q.length ≤ 9223372036854775807) (hr1 : Rd w w.heap.size ycells B q) (hw1 : ∀ x ∈ q, wfY x) :
    Calls Try.prog 4 #[.slice A r.length c, .slice B q.length d] w (Good w) := by
  have HR0 := Lib.hid hr0
  have HW0 := Lib.hid hw0
  have HR1 := Lib.hid hr1
  have HW1 := Lib.hid hw1
  clear hr0 hw0 hr1 hw1
  go_enter Try.func4, Try.ntmps4
  by_cases hq0 : (1048576 : Int) < r.length
  · go_wp2
    go_ret
    exact ⟨rfl, (Below.refl _ _)⟩
  have hm0 : r.length ≤ 1048576 := by omega
  by_cases hq1 : (1048576 : Int) < q.length
  · go_wp2
    go_ret
    exact ⟨rfl, (Below.refl _ _)⟩
  have hm1 : q.length ≤ 1048576 := by omega
  have HB_0 : Hid (Below w.heap.size w w) := Below.refl _ _
  go_wp2_with fail
  refine (toRow_any r A c _ hm0 (HR0.out.keep HB_0.out)).mono ?_
  rintro e w1 ⟨rfl, hR, hb⟩
  have HB_1 : Hid (Below w.heap.size w w1) := HB_0.out.trans (hb.mono HB_0.out.size)
  clear hb HB_0
  have Y0_1 : Hid (Rs w1 w.heap.size 5 ycells r) := hR
  clear hR
  go_wp2_with fail
  refine (toRow_any q B d _ hm1 (HR1.out.keep HB_1.out)).mono ?_
  rintro e w2 ⟨rfl, hR, hb⟩
  have HB_2 : Hid (Below w.heap.size w w2) := HB_1.out.trans (hb.mono HB_1.out.size)
  have Y0_2 : Hid (Rs w2 w.heap.size 5 ycells r) := Blk.keep Y0_1.out hb
  clear hb HB_1 Y0_1
  have Y1_2 : Hid (Rs w2 w1.heap.size 5 ycells q) := hR
  clear hR
  go_wp2_with fail
  refine (specSameRow_any r q _ _ _ _ _ hm0 hm1 (Y0_2.out.rd Y0_2.out.lt) (Y1_2.out.rd Y1_2.out.lt)).mono ?_
  rintro e w3 ⟨rfl, hb⟩
  clear Y0_2
  clear Y1_2
  have HB_3 : Hid (Below w.heap.size w w3) := HB_2.out.trans (hb.mono HB_2.out.size)
  clear hb HB_2
  obtain ⟨cd0, hcd0⟩ : ∃ c, decide (r = q) = c := ⟨_, rfl⟩
  have HCD0 := Lib.hid hcd0
  clear hcd0
  rw [HCD0.out]
  go_wp2_with fail
  refine (toRow_any r A c _ hm0 (HR0.out.keep HB_3.out)).mono ?_
  rintro e w4 ⟨rfl, hR, hb⟩
  have LE0 : Hid (w.heap.size ≤ w3.heap.size) := HB_3.out.size
  have HB_4 : Hid (Below w.heap.size w w4) := HB_3.out.trans (hb.mono HB_3.out.size)
  clear hb HB_3
  have X0_4 : Hid (Rs w4 w3.heap.size 5 ycells r) := hR
  clear hR
  go_wp2_with fail
  refine (toRow_any q B d _ hm1 (HR1.out.keep HB_4.out)).mono ?_
  rintro e w5 ⟨rfl, hR, hb⟩
  have LE1 : Hid (w.heap.size ≤ w4.heap.size) := HB_4.out.size
  have LE2 : Hid (w3.heap.size < w4.heap.size) := X0_4.out.lt
  have HB_5 : Hid (Below w.heap.size w w5) := HB_4.out.trans (hb.mono HB_4.out.size)
  have X0_5 : Hid (Rs w5 w3.heap.size 5 ycells r) := Blk.keep X0_4.out hb
  clear hb HB_4 X0_4
  have X1_5 : Hid (Rs w5 w4.heap.size 5 ycells q) := hR
  clear hR
  go_wp2_with fail
  refine (implSameRow_any r q _ _ _ _ _ hm0 hm1 (X0_5.out.rd X0_5.out.lt) (X1_5.out.rd X1_5.out.lt)).mono ?_
  rintro e w6 ⟨rfl, hb⟩
  have HB_6 : Hid (Below w.heap.size w w6) := HB_5.out.trans (hb.mono HB_5.out.size)
  have X0_6 : Hid (Rs w6 w3.heap.size 5 ycells r) := Blk.keep X0_5.out hb
  have X1_6 : Hid (Rs w6 w4.heap.size 5 ycells q) := Blk.keep X1_5.out hb
  clear hb HB_5 X0_5 X1_5
  rw [HCD0.out]
  cases cd0
  all_goals
    go_wp2_with fail
    refine (toRow_any r A c _ hm0 (HR0.out.keep HB_6.out)).mono ?_
    rintro e w7 ⟨rfl, hR, hb⟩
    have HB_7 : Hid (Below w.heap.size w w7) := HB_6.out.trans (hb.mono HB_6.out.size)
    have X0_7 : Hid (Rs w7 w3.heap.size 5 ycells r) := Blk.keep X0_6.out hb
    have X1_7 : Hid (Rs w7 w4.heap.size 5 ycells q) := Blk.keep X1_6.out hb
    clear hb HB_6 X0_6 X1_6
    have Z0_7 : Hid (Rs w7 w6.heap.size 5 ycells r) := hR
    clear hR
    go_wp2_with fail
    refine (eqRow_same r _ _ _ _ _ (by omega) (X0_7.out.rd X0_7.out.lt) (Z0_7.out.rd Z0_7.out.lt)).mono ?_
    rintro e w8 ⟨rfl, hb⟩
    clear Z0_7
    have HB_8 : Hid (Below w.heap.size w w8) := HB_7.out.trans (hb.mono HB_7.out.size)
    have X0_8 : Hid (Rs w8 w3.heap.size 5 ycells r) := Blk.keep X0_7.out hb
    have X1_8 : Hid (Rs w8 w4.heap.size 5 ycells q) := Blk.keep X1_7.out hb
    clear hb HB_7 X0_7 X1_7
    go_wp2_with fail
    refine (toRow_any q B d _ hm1 (HR1.out.keep HB_8.out)).mono ?_
    rintro e w9 ⟨rfl, hR, hb⟩
    have HB_9 : Hid (Below w.heap.size w w9) := HB_8.out.trans (hb.mono HB_8.out.size)
    have X0_9 : Hid (Rs w9 w3.heap.size 5 ycells r) := Blk.keep X0_8.out hb
    have X1_9 : Hid (Rs w9 w4.heap.size 5 ycells q) := Blk.keep X1_8.out hb
    clear hb HB_8 X0_8 X1_8
    have Z1_9 : Hid (Rs w9 w8.heap.size 5 ycells q) := hR
    clear hR
    go_wp2_with fail
    refine (eqRow_same q _ _ _ _ _ (by omega) (X1_9.out.rd X1_9.out.lt) (Z1_9.out.rd Z1_9.out.lt)).mono ?_
    rintro e w10 ⟨rfl, hb⟩
    clear Z1_9
    have HB_10 : Hid (Below w.heap.size w w10) := HB_9.out.trans (hb.mono HB_9.out.size)
    have X0_10 : Hid (Rs w10 w3.heap.size 5 ycells r) := Blk.keep X0_9.out hb
    have X1_10 : Hid (Rs w10 w4.heap.size 5 ycells q) := Blk.keep X1_9.out hb
    clear hb HB_9 X0_9 X1_9
    go_wp2
    go_ret
    exact ⟨rfl, HB_10.out⟩

set_option maxRecDepth 100000 in
theorem fnExactSameRow_lifted (os : Os) (started : os.Started) (H : Type) (enc : TypeId × Value → H) :
    ReturnsInHanded {} Try.checked os 4 .any (Rows.fnExactSameRowSpec.pre6 enc Try.prog Try.f4 Rows.fnExactSameRowRow.domain false) (Rows.fnExactSameRowSpec.post enc Try.prog Try.f4 false true false false) := by
  refine law_lift (C := Try.checked) 2 Try.own started (by kernel_rfl) Try.func4
    (ChangeSpec.witness6 (enc := enc) (C := Try.checked) false ⟨#[], #[.slice none 0 0, .slice none 0 0], []⟩ 8 (by kernel_rfl) (by kernel_rfl) (by kernel_rfl) (by kernel_rfl))
    Try.laidOut rfl (by kernel_rfl) Try.underlying4 (by kernel_rfl) (by kernel_rfl) (fun ds h => by match ds, h with | [d1, d2], _ => rfl) ?_
  intro W base args ds p hval hA
  rw [Try.params4] at hA hval
  obtain ⟨v0, v1, d0, d1, r0, r1, rfl, rfl, rfl, h0, h1⟩ := trodAll_two hA
  obtain ⟨A0, n0, c0, rfl⟩ := okWide_slice Try.underlying22 (hval 0 22 v0 rfl rfl)
  obtain ⟨A0, c0, xs0, he0, _, hcm0, hwf0, hR0⟩ := open_rows ycells wfY Try.underlying22 Try.flatY Try.cellsY (by decide) ycells_length ycells_of rfl h0
  cases he0
  unfold maxLen at hcm0
  obtain ⟨A1, n1, c1, rfl⟩ := okWide_slice Try.underlying22 (hval 1 22 v1 rfl rfl)
  obtain ⟨A1, c1, xs1, he1, _, hcm1, hwf1, hR1⟩ := open_rows ycells wfY Try.underlying22 Try.flatY Try.cellsY (by decide) ycells_length ycells_of rfl h1
  cases he1
  unfold maxLen at hcm1
  exact syLaw_any xs0 xs1 A0 c0 A1 c1 W (by omega) hR0 hwf0 (by omega) hR1 hwf1

theorem fnExactSameRow_holds : Rows.FnExactSameRowSaid :=
  OpenClaim.holds_of_wide 4 Try.f4 rfl rfl rfl rfl rfl rfl rfl ⟨rfl, rfl, rfl, rfl, rfl⟩ rfl rfl rfl rfl rfl (by kernel_rfl) Try.func4 (by kernel_rfl)
    (of_decide_eq_true (by kernel_rfl)) (by unfold Func.isWrapper; rw [if_neg (of_decide_eq_false (by kernel_rfl))]; exact ⟨rfl, rfl⟩)
    (fun os started H enc _ => fnExactSameRow_lifted os started H enc)
#print axioms fnExactSameRow_holds
end Go.Proofs.Ytjiihdljchaeiaa
