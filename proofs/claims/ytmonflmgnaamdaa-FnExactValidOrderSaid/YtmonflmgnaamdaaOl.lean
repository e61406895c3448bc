/-
  FnExactValidOrder: for every order the law returns true, and its argument reads as before. No condition.
-/
import Derived.Test.YtmonflmgnaamdaaRows
import Derived.Test.YtmonflmgnaamdaaFrame
import Derived.Test.YtmonflmgnaamdaaOe
namespace Go.Proofs.Ytmonflmgnaamdaa
open Go.ChangeShapes Go.WideShapes Go.ChangeAt Go.RowKit Go.Deep

set_option maxRecDepth 100000 in
set_option maxHeartbeats 1000000 in
theorem voLaw_any (xs : List Wnt) (hwf : ∀ x ∈ xs, wfW x) (A : Option Addr) (c : Nat) (w : World) (hl : xs.length ≤ 9223372036854775807) (hr : Rd w w.heap.size wcells A xs) :
    Calls Try.prog 5 #[.slice A xs.length c] w (Good w) := by
  have HR := Lib.hid hr
  have HW := Lib.hid hwf
  clear hr hwf
  go_enter Try.func5, Try.ntmps5
  go_wp2_with fail
  refine (szWantS_any A xs.length c 1048576 hl ⟨by omega, by omega⟩ _).mono ?_
  rintro e w' ⟨rfl, rfl⟩
  by_cases hn : (1048576 : Int) < xs.length
  · rw [if_pos hn]
    go_wp2
    go_ret
    exact ⟨rfl, Below.refl _ _⟩
  rw [if_neg hn]
  have hn0 : (0 : Int) ≤ 1048576 - xs.length := by omega
  have hl2 : xs.length ≤ 1048576 := by omega
  go_wp2_with fail
  refine (toWantS_any xs A c _ hl2 HR.out).mono ?_
  rintro e w1 ⟨rfl, hR1, hb1⟩
  have HB1 := Lib.hid hb1
  have HR1 := Lib.hid hR1
  clear hb1 hR1
  go_wp2_with fail
  refine (specValidOrder_any xs HW.out _ _ _ hl2 (HR1.out.rd HR1.out.lt)).mono ?_
  rintro e w2 ⟨rfl, hb2⟩
  have HB2 : Hid (Below w.heap.size w w2) := HB1.out.trans (hb2.mono HB1.out.size)
  clear hb2
  go_wp2_with fail
  refine (toWantS_any xs A c _ hl2 (HR.out.keep HB2.out)).mono ?_
  rintro e w3 ⟨rfl, hR3, hb3⟩
  have HB3 : Hid (Below w.heap.size w w3) := HB2.out.trans (hb3.mono HB2.out.size)
  have HR3 := Lib.hid hR3
  clear hb3 hR3
  go_wp2_with fail
  refine (validOrder_any xs HW.out _ _ _ hl2 (HR3.out.rd HR3.out.lt)).mono ?_
  rintro e w4 ⟨rfl, hb4⟩
  have HB4 : Hid (Below w.heap.size w w4) := HB3.out.trans (hb4.mono HB3.out.size)
  have HR4 : Hid (Rs w4 w2.heap.size 49 wcells xs) := Blk.keep HR3.out hb4
  clear hb4
  have fin : ∀ v : Bool, ordOk xs = v → True := fun _ _ => trivial
  clear fin
  obtain ⟨v, hv⟩ : ∃ v, ordOk xs = v := ⟨_, rfl⟩
  rw [hv]
  clear hv
  cases v
  all_goals
    go_wp2_with fail
    refine (toWantS_any xs A c _ hl2 (HR.out.keep HB4.out)).mono ?_
    rintro e w5 ⟨rfl, hR5, hb5⟩
    have HB5 : Hid (Below w.heap.size w w5) := HB4.out.trans (hb5.mono HB4.out.size)
    have HR6 : Hid (Rs w5 w2.heap.size 49 wcells xs) := Blk.keep HR4.out hb5
    have HR5 := Lib.hid hR5
    clear hb5 hR5
    go_wp2_with fail
    refine (eqWantS_same xs _ _ _ _ _ (by omega) (HR6.out.rd HR6.out.lt) (HR5.out.rd HR5.out.lt)).mono ?_
    rintro e w6 ⟨rfl, hb6⟩
    have HB6 : Hid (Below w.heap.size w w6) := HB5.out.trans (hb6.mono HB5.out.size)
    clear hb6
    go_wp2
    go_ret
    exact ⟨rfl, HB6.out⟩

set_option maxRecDepth 100000 in
theorem fnExactValidOrder_lifted (os : Os) (started : os.Started) (H : Type) (enc : TypeId × Value → H) :
    ReturnsInHanded {} Try.checked os 5 .any (Rows.fnExactValidOrderSpec.pre6 enc Try.prog Try.f5 Rows.fnExactValidOrderRow.domain false) (Rows.fnExactValidOrderSpec.post enc Try.prog Try.f5 false true false false) := by
  refine law_lift (C := Try.checked) 1 Try.own started (by kernel_rfl) Try.func5
    (ChangeSpec.witness6 (enc := enc) (C := Try.checked) false ⟨#[], #[.slice none 0 0], []⟩ 8 (by kernel_rfl) (by kernel_rfl) (by kernel_rfl) (by kernel_rfl))
    Try.laidOut rfl (by kernel_rfl) Try.underlying4 (by kernel_rfl) (by kernel_rfl) (fun ds h => by match ds, h with | [d1], _ => rfl) ?_
  intro W base args ds p hval hA
  rw [Try.params5] at hA hval
  obtain ⟨v0, d0, rfl, rfl, h0⟩ := trodAll_one hA
  obtain ⟨A, n, c, rfl⟩ := okWide_slice Try.underlying30 (hval 0 30 v0 rfl rfl)
  obtain ⟨A, c, xs, he, hlc, hcm, hwf, hR⟩ := open_rows wcells wfW Try.underlying30 Try.flatWL Try.cellsWL (by decide) wcells_length wcells_of rfl h0
  cases he
  unfold maxLen at hcm
  exact voLaw_any xs hwf A c W (by omega) hR

theorem fnExactValidOrder_holds : Rows.FnExactValidOrderSaid :=
  OpenClaim.holds_of_wide 5 Try.f5 rfl rfl rfl rfl rfl rfl rfl ⟨rfl, rfl, rfl, rfl, rfl⟩ rfl rfl rfl rfl rfl (by kernel_rfl) Try.func5 (by kernel_rfl)
    (of_decide_eq_true (by kernel_rfl)) (by unfold Func.isWrapper; rw [if_neg (of_decide_eq_false (by kernel_rfl))]; exact ⟨rfl, rfl⟩)
    (fun os started H enc _ => fnExactValidOrder_lifted os started H enc)
#print axioms fnExactValidOrder_holds
end Go.Proofs.Ytmonflmgnaamdaa
