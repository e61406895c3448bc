/-
  FnExactRowText: for all arguments the law returns true, and they read as before. No condition.
-/
import Derived.Test.YtjjdehnpnfdjcaaRows
import Derived.Test.YtjjdehnpnfdjcaaFrame
import Derived.Test.YtjjdehnpnfdjcaaRt1
import Derived.Test.YtjjdehnpnfdjcaaRt2
import Derived.Test.YtjjdehnpnfdjcaaGk
namespace Go.Proofs.Ytjjdehnpnfdjcaa
open Go.ChangeShapes Go.WideShapes Go.ChangeAt Go.RowKit Go.Deep

set_option maxRecDepth 100000 in
set_option maxHeartbeats 4000000 in
theorem rt5Law_any (r : List Int) (A : Option Addr) (c : Nat) (w : World) (hl0 : r.length ≤ 9223372036854775807) (hr0 : Rd w w.heap.size ycells A r) (hw0 : ∀ x ∈ r, wfY x) :
    Calls Try.prog 3 #[.slice A r.length c] w (Good w) := by
  have HR0 := Lib.hid hr0
  have HW0 := Lib.hid hw0
  clear hr0 hw0
  go_enter Try.func3, Try.ntmps3
  by_cases hq0 : (1048576 : Int) < r.length
  · go_wp2
    go_ret
    exact ⟨rfl, (Below.refl _ _)⟩
  have hm0 : r.length ≤ 1048576 := by omega
  have HB_0 : Hid (Below w.heap.size w w) := Below.refl _ _
  go_wp2_with fail
  refine (toRow_any r A c _ hm0 (HR0.out.keep HB_0.out)).mono ?_
  rintro e w1 ⟨rfl, hR, hb⟩
  have HB_1 : Hid (Below w.heap.size w w1) := HB_0.out.trans (hb.mono HB_0.out.size)
  clear hb HB_0
  have Y0_1 : Hid (Rs w1 w.heap.size 5 ycells r) := hR
  clear hR
  go_wp2_with fail
  refine (specRowText_any r HW0.out _ _ _ hm0 (Y0_1.out.rd Y0_1.out.lt)).mono ?_
  rintro e w2 ⟨rfl, hb⟩
  clear Y0_1
  have HB_2 : Hid (Below w.heap.size w w2) := HB_1.out.trans (hb.mono HB_1.out.size)
  clear hb HB_1
  obtain ⟨cd0, hcd0⟩ : ∃ c, rtA r = c := ⟨_, rfl⟩
  have HCD0 := Lib.hid hcd0
  clear hcd0
  rw [HCD0.out]
  go_wp2_with fail
  refine (toRow_any r A c _ hm0 (HR0.out.keep HB_2.out)).mono ?_
  rintro e w3 ⟨rfl, hR, hb⟩
  have LE0 : Hid (w.heap.size ≤ w2.heap.size) := HB_2.out.size
  have HB_3 : Hid (Below w.heap.size w w3) := HB_2.out.trans (hb.mono HB_2.out.size)
  clear hb HB_2
  have X0_3 : Hid (Rs w3 w2.heap.size 5 ycells r) := hR
  clear hR
  go_wp2_with fail
  refine (implRowText_any r HW0.out _ _ _ hm0 (X0_3.out.rd X0_3.out.lt)).mono ?_
  rintro e w4 ⟨rfl, hb⟩
  have HB_4 : Hid (Below w.heap.size w w4) := HB_3.out.trans (hb.mono HB_3.out.size)
  have X0_4 : Hid (Rs w4 w2.heap.size 5 ycells r) := Blk.keep X0_3.out hb
  clear hb HB_3 X0_3
  rw [HCD0.out]
  go_wp2_with fail
  refine (toRow_any r A c _ hm0 (HR0.out.keep HB_4.out)).mono ?_
  rintro e w5 ⟨rfl, hR, hb⟩
  have HB_5 : Hid (Below w.heap.size w w5) := HB_4.out.trans (hb.mono HB_4.out.size)
  have X0_5 : Hid (Rs w5 w2.heap.size 5 ycells r) := Blk.keep X0_4.out hb
  clear hb HB_4 X0_4
  have Z0_5 : Hid (Rs w5 w4.heap.size 5 ycells r) := hR
  clear hR
  go_wp2_with fail
  refine (eqRow_same r _ _ _ _ _ (by omega) (X0_5.out.rd X0_5.out.lt) (Z0_5.out.rd Z0_5.out.lt)).mono ?_
  rintro e w6 ⟨rfl, hb⟩
  clear Z0_5
  have HB_6 : Hid (Below w.heap.size w w6) := HB_5.out.trans (hb.mono HB_5.out.size)
  have X0_6 : Hid (Rs w6 w2.heap.size 5 ycells r) := Blk.keep X0_5.out hb
  clear hb HB_5 X0_5
  go_wp2
  go_ret
  exact ⟨rfl, HB_6.out⟩

set_option maxRecDepth 100000 in
theorem fnExactRowText_lifted (os : Os) (started : os.Started) (H : Type) (enc : TypeId × Value → H) :
    ReturnsInHanded {} Try.checked os 3 .any (Rows.fnExactRowTextSpec.pre6 enc Try.prog Try.f3 Rows.fnExactRowTextRow.domain false) (Rows.fnExactRowTextSpec.post enc Try.prog Try.f3 false true false false) := by
  refine law_lift (C := Try.checked) 1 Try.own started (by kernel_rfl) Try.func3
    (ChangeSpec.witness6 (enc := enc) (C := Try.checked) false ⟨#[], #[.slice none 0 0], []⟩ 8 (by kernel_rfl) (by kernel_rfl) (by kernel_rfl) (by kernel_rfl))
    Try.laidOut rfl (by kernel_rfl) Try.underlying4 (by kernel_rfl) (by kernel_rfl) (fun ds h => by match ds, h with | [d1], _ => rfl) ?_
  intro W base args ds p hval hA
  rw [Try.params3] at hA hval
  obtain ⟨v0, d0, rfl, rfl, h0⟩ := trodAll_one hA
  obtain ⟨A0, n0, c0, rfl⟩ := okWide_slice Try.underlying22 (hval 0 22 v0 rfl rfl)
  obtain ⟨A0, c0, xs0, he0, _, hcm0, hwf0, hR0⟩ := open_rows ycells wfY Try.underlying22 Try.flatY Try.cellsY (by decide) ycells_length ycells_of rfl h0
  cases he0
  unfold maxLen at hcm0
  exact rt5Law_any xs0 A0 c0 W (by omega) hR0 hwf0

theorem fnExactRowText_holds : Rows.FnExactRowTextSaid :=
  OpenClaim.holds_of_wide 3 Try.f3 rfl rfl rfl rfl rfl rfl rfl ⟨rfl, rfl, rfl, rfl, rfl⟩ rfl rfl rfl rfl rfl (by kernel_rfl) Try.func3 (by kernel_rfl)
    (of_decide_eq_true (by kernel_rfl)) (by unfold Func.isWrapper; rw [if_neg (of_decide_eq_false (by kernel_rfl))]; exact ⟨rfl, rfl⟩)
    (fun os started H enc _ => fnExactRowText_lifted os started H enc)
#print axioms fnExactRowText_holds
end Go.Proofs.Ytjjdehnpnfdjcaa
