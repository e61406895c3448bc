/-
  FnExactValidLedger: for all arguments the law returns true, and they read as before. No condition.
-/
import Derived.Test.YtjgafdfffmfhhaaRows
import Derived.Test.YtjgafdfffmfhhaaFrame
import Derived.Test.YtjgafdfffmfhhaaHl2
import Derived.Test.YtjgafdfffmfhhaaGk
namespace Go.Proofs.Ytjgafdfffmfhhaa
open Go.ChangeShapes Go.WideShapes Go.ChangeAt Go.RowKit Go.Deep

set_option maxRecDepth 100000 in
set_option maxHeartbeats 4000000 in
theorem vlLaw_any (l : List Ent) (A : Option Addr) (c : Nat) (n : Int) (w : World) (hl0 : l.length ≤ 9223372036854775807) (hr0 : Rd w w.heap.size ecells A l) (hw0 : ∀ x ∈ l, wfE x) (hsn : wfI6 n) :
    Calls Try.prog 5 #[.int .i64 n, .slice A l.length c] w (Good w) := by
  have HR0 := Lib.hid hr0
  have HW0 := Lib.hid hw0
  have HSn := Lib.hid hsn
  clear hr0 hw0 hsn
  go_enter Try.func5, Try.ntmps5
  go_wp2_with fail
  refine (szEntryS_any A l.length c (1048576) hl0 ⟨by omega, by omega⟩ _).mono ?_
  rintro e w' ⟨rfl, rfl⟩
  by_cases hn0 : (1048576 : Int) < l.length
  · rw [if_pos hn0]
    go_wp2
    go_ret
    exact ⟨rfl, (Below.refl _ _)⟩
  rw [if_neg hn0]
  have hz0 : (0 : Int) ≤ 1048576 - l.length := by omega
  have hm0 : l.length ≤ 1048576 := by omega
  have HB_0 : Hid (Below w.heap.size w w) := Below.refl _ _
  go_wp2_with fail
  refine (toEntryS_any l A c _ hm0 (HR0.out.keep HB_0.out)).mono ?_
  rintro e w1 ⟨rfl, hR, hb⟩
  have HB_1 : Hid (Below w.heap.size w w1) := HB_0.out.trans (hb.mono HB_0.out.size)
  clear hb HB_0
  have Y0_1 : Hid (Rs w1 w.heap.size 33 ecells l) := hR
  clear hR
  go_wp2_with fail
  refine (specValidLedger_any n l HW0.out _ _ _ hm0 (Y0_1.out.rd Y0_1.out.lt)).mono ?_
  rintro e w2 ⟨rfl, hb⟩
  clear Y0_1
  have HB_2 : Hid (Below w.heap.size w w2) := HB_1.out.trans (hb.mono HB_1.out.size)
  clear hb HB_1
  obtain ⟨cd0, hcd0⟩ : ∃ c, leOk n l = c := ⟨_, rfl⟩
  have HCD0 := Lib.hid hcd0
  clear hcd0
  rw [HCD0.out]
  go_wp2_with fail
  refine (toEntryS_any l A c _ hm0 (HR0.out.keep HB_2.out)).mono ?_
  rintro e w3 ⟨rfl, hR, hb⟩
  have LE0 : Hid (w.heap.size ≤ w2.heap.size) := HB_2.out.size
  have HB_3 : Hid (Below w.heap.size w w3) := HB_2.out.trans (hb.mono HB_2.out.size)
  clear hb HB_2
  have X0_3 : Hid (Rs w3 w2.heap.size 33 ecells l) := hR
  clear hR
  go_wp2_with fail
  refine (implValidLedger_any n l HW0.out _ _ _ hm0 (X0_3.out.rd X0_3.out.lt)).mono ?_
  rintro e w4 ⟨rfl, hb⟩
  have HB_4 : Hid (Below w.heap.size w w4) := HB_3.out.trans (hb.mono HB_3.out.size)
  have X0_4 : Hid (Rs w4 w2.heap.size 33 ecells l) := Blk.keep X0_3.out hb
  clear hb HB_3 X0_3
  rw [HCD0.out]
  cases cd0
  all_goals
    go_wp2_with fail
    refine (toEntryS_any l A c _ hm0 (HR0.out.keep HB_4.out)).mono ?_
    rintro e w5 ⟨rfl, hR, hb⟩
    have HB_5 : Hid (Below w.heap.size w w5) := HB_4.out.trans (hb.mono HB_4.out.size)
    have X0_5 : Hid (Rs w5 w2.heap.size 33 ecells l) := Blk.keep X0_4.out hb
    clear hb HB_4 X0_4
    have Z0_5 : Hid (Rs w5 w4.heap.size 33 ecells l) := hR
    clear hR
    go_wp2_with fail
    refine (eqEntryS_same l _ _ _ _ _ (by omega) (X0_5.out.rd X0_5.out.lt) (Z0_5.out.rd Z0_5.out.lt)).mono ?_
    rintro e w6 ⟨rfl, hb⟩
    clear Z0_5
    have HB_6 : Hid (Below w.heap.size w w6) := HB_5.out.trans (hb.mono HB_5.out.size)
    have X0_6 : Hid (Rs w6 w2.heap.size 33 ecells l) := Blk.keep X0_5.out hb
    clear hb HB_5 X0_5
    go_wp2
    go_ret
    exact ⟨rfl, HB_6.out⟩

set_option maxRecDepth 100000 in
theorem fnExactValidLedger_lifted (os : Os) (started : os.Started) (H : Type) (enc : TypeId × Value → H) :
    ReturnsInHanded {} Try.checked os 5 .any (Rows.fnExactValidLedgerSpec.pre6 enc Try.prog Try.f5 Rows.fnExactValidLedgerRow.domain false) (Rows.fnExactValidLedgerSpec.post enc Try.prog Try.f5 false true false false) := by
  refine law_lift (C := Try.checked) 2 Try.own started (by kernel_rfl) Try.func5
    (ChangeSpec.witness6 (enc := enc) (C := Try.checked) false ⟨#[], #[.int .i64 0, .slice none 0 0], []⟩ 8 (by kernel_rfl) (by kernel_rfl) (by kernel_rfl) (by kernel_rfl))
    Try.laidOut rfl (by kernel_rfl) Try.underlying4 (by kernel_rfl) (by kernel_rfl) (fun ds h => by match ds, h with | [d1, d2], _ => rfl) ?_
  intro W base args ds p hval hA
  rw [Try.params5] at hA hval
  obtain ⟨v0, v1, d0, d1, r0, r1, rfl, rfl, rfl, h0, h1⟩ := trodAll_two hA
  obtain ⟨n, rfl, rfl, rfl, wn0⟩ := open_int Try.underlying2 (hval 0 2 v0 rfl rfl) h0
  obtain ⟨A0, n0, c0, rfl⟩ := okWide_slice Try.underlying36 (hval 1 36 v1 rfl rfl)
  obtain ⟨A0, c0, xs0, he0, _, hcm0, hwf0, hR0⟩ := open_rows ecells wfE Try.underlying36 Try.flatEL Try.cellsEL (by decide) ecells_length ecells_of rfl h1
  cases he0
  unfold maxLen at hcm0
  exact vlLaw_any xs0 A0 c0 n W (by omega) hR0 hwf0 (bounds_i64 wn0)

theorem fnExactValidLedger_holds : Rows.FnExactValidLedgerSaid :=
  OpenClaim.holds_of_wide 5 Try.f5 rfl rfl rfl rfl rfl rfl rfl ⟨rfl, rfl, rfl, rfl, rfl⟩ rfl rfl rfl rfl rfl (by kernel_rfl) Try.func5 (by kernel_rfl)
    (of_decide_eq_true (by kernel_rfl)) (by unfold Func.isWrapper; rw [if_neg (of_decide_eq_false (by kernel_rfl))]; exact ⟨rfl, rfl⟩)
    (fun os started H enc _ => fnExactValidLedger_lifted os started H enc)
#print axioms fnExactValidLedger_holds
end Go.Proofs.Ytjgafdfffmfhhaa
