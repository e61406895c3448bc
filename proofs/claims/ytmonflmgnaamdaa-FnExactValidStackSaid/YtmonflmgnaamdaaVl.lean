/-
  FnExactValidStack: for every list of crates the law returns true, and its argument reads as before. No condition.
-/
import Derived.Test.YtmonflmgnaamdaaRows
import Derived.Test.YtmonflmgnaamdaaFrame
import Derived.Test.YtmonflmgnaamdaaVs
namespace Go.Proofs.Ytmonflmgnaamdaa
open Go.ChangeShapes Go.WideShapes Go.ChangeAt Go.RowKit Go.Deep

theorem specValidStack_any (xs : List Crt) (A : Option Addr) (c : Nat) (w : World) (hl : xs.length ≤ 1048576) (hr : Rd w w.heap.size kcells A xs) :
    Calls Try.prog 8 #[.slice A xs.length c] w fun e w' => e = .returned (.bool (okS xs)) ∧ Below w.heap.size w w' := by
  have HR := Lib.hid hr
  clear hr
  go_enter Try.func8, Try.ntmps8
  go_wp2_with fail
  refine (l01Stack_any xs A c w hl HR.out).mono ?_
  rintro e w1 ⟨rfl, hb⟩
  have HB := Lib.hid hb
  clear hb
  go_wp2
  go_ret
  exact ⟨rfl, HB.out⟩

set_option maxRecDepth 100000 in
set_option maxHeartbeats 1000000 in
theorem vsLaw_any (xs : List Crt) (A : Option Addr) (c : Nat) (w : World) (hl : xs.length ≤ 9223372036854775807) (hr : Rd w w.heap.size kcells A xs) :
    Calls Try.prog 3 #[.slice A xs.length c] w (Good w) := by
  have HR := Lib.hid hr
  clear hr
  go_enter Try.func3, Try.ntmps3
  go_wp2_with fail
  refine (szCrateS_any A xs.length c 1048576 hl ⟨by omega, by omega⟩ _).mono ?_
  rintro e w' ⟨rfl, rfl⟩
  by_cases hn : (1048576 : Int) < xs.length
  · rw [if_pos hn]
    go_wp2
    go_ret
    exact ⟨rfl, Below.refl _ _⟩
  rw [if_neg hn]
  have hn0 : (0 : Int) ≤ 1048576 - xs.length := by omega
  have hl2 : xs.length ≤ 1048576 := by omega
  go_wp2_with fail
  refine (toCrateS_any xs A c _ hl2 HR.out).mono ?_
  rintro e w1 ⟨rfl, hR1, hb1⟩
  have HB1 := Lib.hid hb1
  have HR1 := Lib.hid hR1
  clear hb1 hR1
  go_wp2_with fail
  refine (specValidStack_any xs _ _ _ hl2 (HR1.out.rd HR1.out.lt)).mono ?_
  rintro e w2 ⟨rfl, hb2⟩
  have HB2 : Hid (Below w.heap.size w w2) := HB1.out.trans (hb2.mono HB1.out.size)
  clear hb2
  go_wp2_with fail
  refine (toCrateS_any xs A c _ hl2 (HR.out.keep HB2.out)).mono ?_
  rintro e w3 ⟨rfl, hR3, hb3⟩
  have HB3 : Hid (Below w.heap.size w w3) := HB2.out.trans (hb3.mono HB2.out.size)
  have HR3 := Lib.hid hR3
  clear hb3 hR3
  go_wp2_with fail
  refine (validStack_any xs _ _ _ hl2 (HR3.out.rd HR3.out.lt)).mono ?_
  rintro e w4 ⟨rfl, hb4⟩
  have HB4 : Hid (Below w.heap.size w w4) := HB3.out.trans (hb4.mono HB3.out.size)
  have HR4 : Hid (Rs w4 w2.heap.size 42 kcells xs) := Blk.keep HR3.out hb4
  clear hb4
  have fin : ∀ v : Bool, okS xs = v → True := fun _ _ => trivial
  clear fin
  obtain ⟨v, hv⟩ : ∃ v, okS xs = v := ⟨_, rfl⟩
  rw [hv]
  clear hv
  cases v
  all_goals
    go_wp2_with fail
    refine (toCrateS_any xs A c _ hl2 (HR.out.keep HB4.out)).mono ?_
    rintro e w5 ⟨rfl, hR5, hb5⟩
    have HB5 : Hid (Below w.heap.size w w5) := HB4.out.trans (hb5.mono HB4.out.size)
    have HR6 : Hid (Rs w5 w2.heap.size 42 kcells xs) := Blk.keep HR4.out hb5
    have HR5 := Lib.hid hR5
    clear hb5 hR5
    go_wp2_with fail
    refine (eqCrateS_same xs _ _ _ _ _ (by omega) (HR6.out.rd HR6.out.lt) (HR5.out.rd HR5.out.lt)).mono ?_
    rintro e w6 ⟨rfl, hb6⟩
    have HB6 : Hid (Below w.heap.size w w6) := HB5.out.trans (hb6.mono HB5.out.size)
    clear hb6
    go_wp2
    go_ret
    exact ⟨rfl, HB6.out⟩

set_option maxRecDepth 100000 in
theorem fnExactValidStack_lifted (os : Os) (started : os.Started) (H : Type) (enc : TypeId × Value → H) :
    ReturnsInHanded {} Try.checked os 3 .any (Rows.fnExactValidStackSpec.pre6 enc Try.prog Try.f3 Rows.fnExactValidStackRow.domain false) (Rows.fnExactValidStackSpec.post enc Try.prog Try.f3 false true false false) := by
  refine law_lift (C := Try.checked) 1 Try.own started (by kernel_rfl) Try.func3
    (ChangeSpec.witness6 (enc := enc) (C := Try.checked) false ⟨#[], #[.slice none 0 0], []⟩ 8 (by kernel_rfl) (by kernel_rfl) (by kernel_rfl) (by kernel_rfl))
    Try.laidOut rfl (by kernel_rfl) Try.underlying4 (by kernel_rfl) (by kernel_rfl) (fun ds h => by match ds, h with | [d1], _ => rfl) ?_
  intro W base args ds p hval hA
  rw [Try.params3] at hA hval
  obtain ⟨v0, d0, rfl, rfl, h0⟩ := trodAll_one hA
  obtain ⟨A, n, c, rfl⟩ := okWide_slice Try.underlying22 (hval 0 22 v0 rfl rfl)
  obtain ⟨A, c, xs, he, hlc, hcm, _, hR⟩ := open_rows kcells (fun _ => True) Try.underlying22 Try.flatCL Try.cellsCL (by decide) kcells_length kcells_of rfl h0
  cases he
  unfold maxLen at hcm
  exact vsLaw_any xs A c W (by omega) hR

theorem fnExactValidStack_holds : Rows.FnExactValidStackSaid :=
  OpenClaim.holds_of_wide 3 Try.f3 rfl rfl rfl rfl rfl rfl rfl ⟨rfl, rfl, rfl, rfl, rfl⟩ rfl rfl rfl rfl rfl (by kernel_rfl) Try.func3 (by kernel_rfl)
    (of_decide_eq_true (by kernel_rfl)) (by unfold Func.isWrapper; rw [if_neg (of_decide_eq_false (by kernel_rfl))]; exact ⟨rfl, rfl⟩)
    (fun os started H enc _ => fnExactValidStack_lifted os started H enc)
#print axioms fnExactValidStack_holds
end Go.Proofs.Ytmonflmgnaamdaa
