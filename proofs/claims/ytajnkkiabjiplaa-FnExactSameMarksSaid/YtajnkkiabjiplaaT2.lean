/-
  FnExactSameMarks: for all arguments the law returns true, and they read as before. No condition.
-/
import Derived.Test.YtajnkkiabjiplaaRows
import Derived.Test.YtajnkkiabjiplaaFrame
import Derived.Test.YtajnkkiabjiplaaTs
import Derived.Test.YtajnkkiabjiplaaGk
namespace Go.Proofs.Ytajnkkiabjiplaa
open Go.ChangeShapes Go.WideShapes Go.ChangeAt Go.RowKit Go.Deep

set_option maxRecDepth 100000 in
set_option maxHeartbeats 4000000 in
theorem sm7Law_any (m : List (List Int)) (m2 : List (List Int)) (A : Option Addr) (c : Nat) (B : Option Addr) (d : Nat) (w : World) (hl0 : m.length ≤ 9223372036854775807) (hr0 : RdN w w.heap.size icells A m) (hx0 : ∀ xs ∈ m, xs.length ≤ 9223372036854775807) (hw0 : ∀ xs ∈ m, ∀ x ∈ xs, wfI x) (hl1 : m2.length ≤ 9223372036854775807) (hr1 : RdN w w.heap.size icells B m2) (hx1 : ∀ xs ∈ m2, xs.length ≤ 9223372036854775807) (hw1 : ∀ xs ∈ m2, ∀ x ∈ xs, wfI x) :
    Calls Try.prog 3 #[.slice A m.length c, .slice B m2.length d] w (Good w) := by
  have HR0 := Lib.hid hr0
  have HW0 := Lib.hid hw0
  have HR1 := Lib.hid hr1
  have HW1 := Lib.hid hw1
  clear hr0 hw0 hr1 hw1
  go_enter Try.func3, Try.ntmps3
  go_wp2_with fail
  refine (szMarks_any m A c (1048576) hl0 hx0 ⟨by omega, by omega⟩ _ HR0.out).mono ?_
  rintro e w' ⟨rfl, rfl⟩
  by_cases hn0 : (1048576 : Int) < (m.length + sumL m)
  · rw [if_pos hn0]
    go_wp2
    go_ret
    exact ⟨rfl, (Below.refl _ _)⟩
  rw [if_neg hn0]
  have hz0 : (0 : Int) ≤ 1048576 - (m.length + sumL m) := by omega
  have hm0 : m.length ≤ 1048576 := by omega
  have hsm0 : sumL m ≤ 1048576 := by omega
  have hxm0 : ∀ xs ∈ m, xs.length ≤ 1048576 := fun xs hxs => by obtain ⟨j, hj, rfl⟩ := List.mem_iff_getElem.1 hxs; have := le_sumL (List.getElem?_eq_getElem hj); omega
  go_wp2_with fail
  refine (szMarks_any m2 B d (1048576 - (m.length + sumL m)) hl1 hx1 ⟨by omega, by omega⟩ _ HR1.out).mono ?_
  rintro e w' ⟨rfl, rfl⟩
  by_cases hn1 : (1048576 - (m.length + sumL m) : Int) < (m2.length + sumL m2)
  · rw [if_pos hn1]
    go_wp2
    go_ret
    exact ⟨rfl, (Below.refl _ _)⟩
  rw [if_neg hn1]
  have hz1 : (0 : Int) ≤ 1048576 - (m.length + sumL m) - (m2.length + sumL m2) := by omega
  have hm1 : m2.length ≤ 1048576 := by omega
  have hsm1 : sumL m2 ≤ 1048576 := by omega
  have hxm1 : ∀ xs ∈ m2, xs.length ≤ 1048576 := fun xs hxs => by obtain ⟨j, hj, rfl⟩ := List.mem_iff_getElem.1 hxs; have := le_sumL (List.getElem?_eq_getElem hj); omega
  have HB_0 : Hid (Below w.heap.size w w) := Below.refl _ _
  go_wp2_with fail
  refine (toMarks_any m A c _ hm0 hxm0 (HR0.out.keep HB_0.out)).mono ?_
  rintro e w1 ⟨rfl, ⟨gsY0, hR⟩, hb⟩
  have HB_1 : Hid (Below w.heap.size w w1) := HB_0.out.trans (hb.mono HB_0.out.size)
  clear hb HB_0
  have Y0_1 : Hid (RsN w1 w.heap.size 29 2 icells m gsY0) := hR
  clear hR
  go_wp2_with fail
  refine (toMarks_any m2 B d _ hm1 hxm1 (HR1.out.keep HB_1.out)).mono ?_
  rintro e w2 ⟨rfl, ⟨gsY1, hR⟩, hb⟩
  have HB_2 : Hid (Below w.heap.size w w2) := HB_1.out.trans (hb.mono HB_1.out.size)
  have Y0_2 : Hid (RsN w2 w.heap.size 29 2 icells m gsY0) := Y0_1.out.keep hb
  clear hb HB_1 Y0_1
  have Y1_2 : Hid (RsN w2 w1.heap.size 29 2 icells m2 gsY1) := hR
  clear hR
  go_wp2_with fail
  refine (specSameMarks_any m m2 _ _ _ _ _ hm0 hxm0 hm1 hxm1 Y0_2.out.rd Y1_2.out.rd).mono ?_
  rintro e w3 ⟨rfl, hb⟩
  clear Y0_2
  clear Y1_2
  have HB_3 : Hid (Below w.heap.size w w3) := HB_2.out.trans (hb.mono HB_2.out.size)
  clear hb HB_2
  obtain ⟨cd0, hcd0⟩ : ∃ c, decide (m = m2) = c := ⟨_, rfl⟩
  have HCD0 := Lib.hid hcd0
  clear hcd0
  rw [HCD0.out]
  go_wp2_with fail
  refine (toMarks_any m A c _ hm0 hxm0 (HR0.out.keep HB_3.out)).mono ?_
  rintro e w4 ⟨rfl, ⟨gsX0, hR⟩, hb⟩
  have LE0 : Hid (w.heap.size ≤ w3.heap.size) := HB_3.out.size
  have HB_4 : Hid (Below w.heap.size w w4) := HB_3.out.trans (hb.mono HB_3.out.size)
  clear hb HB_3
  have X0_4 : Hid (RsN w4 w3.heap.size 29 2 icells m gsX0) := hR
  clear hR
  go_wp2_with fail
  refine (toMarks_any m2 B d _ hm1 hxm1 (HR1.out.keep HB_4.out)).mono ?_
  rintro e w5 ⟨rfl, ⟨gsX1, hR⟩, hb⟩
  have LE1 : Hid (w.heap.size ≤ w4.heap.size) := HB_4.out.size
  have LE2 : Hid (w3.heap.size < w4.heap.size) := X0_4.out.lt
  have HB_5 : Hid (Below w.heap.size w w5) := HB_4.out.trans (hb.mono HB_4.out.size)
  have X0_5 : Hid (RsN w5 w3.heap.size 29 2 icells m gsX0) := X0_4.out.keep hb
  clear hb HB_4 X0_4
  have X1_5 : Hid (RsN w5 w4.heap.size 29 2 icells m2 gsX1) := hR
  clear hR
  go_wp2_with fail
  refine (implSameMarks_any m m2 _ _ _ _ _ hm0 hxm0 hm1 hxm1 X0_5.out.rd X1_5.out.rd).mono ?_
  rintro e w6 ⟨rfl, hb⟩
  have HB_6 : Hid (Below w.heap.size w w6) := HB_5.out.trans (hb.mono HB_5.out.size)
  have X0_6 : Hid (RsN w6 w3.heap.size 29 2 icells m gsX0) := X0_5.out.keep hb
  have X1_6 : Hid (RsN w6 w4.heap.size 29 2 icells m2 gsX1) := X1_5.out.keep hb
  clear hb HB_5 X0_5 X1_5
  rw [HCD0.out]
  cases cd0
  all_goals
    go_wp2_with fail
    refine (toMarks_any m A c _ hm0 hxm0 (HR0.out.keep HB_6.out)).mono ?_
    rintro e w7 ⟨rfl, ⟨gsZ0, hR⟩, hb⟩
    have HB_7 : Hid (Below w.heap.size w w7) := HB_6.out.trans (hb.mono HB_6.out.size)
    have X0_7 : Hid (RsN w7 w3.heap.size 29 2 icells m gsX0) := X0_6.out.keep hb
    have X1_7 : Hid (RsN w7 w4.heap.size 29 2 icells m2 gsX1) := X1_6.out.keep hb
    clear hb HB_6 X0_6 X1_6
    have Z0_7 : Hid (RsN w7 w6.heap.size 29 2 icells m gsZ0) := hR
    clear hR
    go_wp2_with fail
    refine (eqMarks_same m _ _ _ _ _ (by omega) hxm0 X0_7.out.rd Z0_7.out.rd).mono ?_
    rintro e w8 ⟨rfl, hb⟩
    clear Z0_7
    have HB_8 : Hid (Below w.heap.size w w8) := HB_7.out.trans (hb.mono HB_7.out.size)
    have X0_8 : Hid (RsN w8 w3.heap.size 29 2 icells m gsX0) := X0_7.out.keep hb
    have X1_8 : Hid (RsN w8 w4.heap.size 29 2 icells m2 gsX1) := X1_7.out.keep hb
    clear hb HB_7 X0_7 X1_7
    go_wp2_with fail
    refine (toMarks_any m2 B d _ hm1 hxm1 (HR1.out.keep HB_8.out)).mono ?_
    rintro e w9 ⟨rfl, ⟨gsZ1, hR⟩, hb⟩
    have HB_9 : Hid (Below w.heap.size w w9) := HB_8.out.trans (hb.mono HB_8.out.size)
    have X0_9 : Hid (RsN w9 w3.heap.size 29 2 icells m gsX0) := X0_8.out.keep hb
    have X1_9 : Hid (RsN w9 w4.heap.size 29 2 icells m2 gsX1) := X1_8.out.keep hb
    clear hb HB_8 X0_8 X1_8
    have Z1_9 : Hid (RsN w9 w8.heap.size 29 2 icells m2 gsZ1) := hR
    clear hR
    go_wp2_with fail
    refine (eqMarks_same m2 _ _ _ _ _ (by omega) hxm1 X1_9.out.rd Z1_9.out.rd).mono ?_
    rintro e w10 ⟨rfl, hb⟩
    clear Z1_9
    have HB_10 : Hid (Below w.heap.size w w10) := HB_9.out.trans (hb.mono HB_9.out.size)
    have X0_10 : Hid (RsN w10 w3.heap.size 29 2 icells m gsX0) := X0_9.out.keep hb
    have X1_10 : Hid (RsN w10 w4.heap.size 29 2 icells m2 gsX1) := X1_9.out.keep hb
    clear hb HB_9 X0_9 X1_9
    go_wp2
    go_ret
    exact ⟨rfl, HB_10.out⟩

set_option maxRecDepth 100000 in
theorem fnExactSameMarks_lifted (os : Os) (started : os.Started) (H : Type) (enc : TypeId × Value → H) :
    ReturnsInHanded {} Try.checked os 3 .any (Rows.fnExactSameMarksSpec.pre6 enc Try.prog Try.f3 Rows.fnExactSameMarksRow.domain false) (Rows.fnExactSameMarksSpec.post enc Try.prog Try.f3 false true false false) := by
  refine law_lift (C := Try.checked) 2 Try.own started (by kernel_rfl) Try.func3
    (ChangeSpec.witness6 (enc := enc) (C := Try.checked) false ⟨#[], #[.slice none 0 0, .slice none 0 0], []⟩ 8 (by kernel_rfl) (by kernel_rfl) (by kernel_rfl) (by kernel_rfl))
    Try.laidOut rfl (by kernel_rfl) Try.underlying4 (by kernel_rfl) (by kernel_rfl) (fun ds h => by match ds, h with | [d1, d2], _ => rfl) ?_
  intro W base args ds p hval hA
  rw [Try.params3] at hA hval
  obtain ⟨v0, v1, d0, d1, r0, r1, rfl, rfl, rfl, h0, h1⟩ := trodAll_two hA
  obtain ⟨A0, n0, c0, rfl⟩ := okWide_slice Try.underlying22 (hval 0 22 v0 rfl rfl)
  obtain ⟨A0, c0, xs0, he0, _, hcm0, hall0, hR0⟩ := open_nested icells wfI Try.underlying22 Try.underlying29 (by kernel_rfl) (.int Try.underlying2) Try.cells64 (by decide) icells_length icells_of rfl h0
  cases he0
  have hxl0 : ∀ xs ∈ xs0, xs.length ≤ 9223372036854775807 := fun xs hxs => by have := (hall0 xs hxs).1; unfold maxLen at this; omega
  have hwf0 : ∀ xs ∈ xs0, ∀ x ∈ xs, wfI x := fun xs hxs => (hall0 xs hxs).2
  unfold maxLen at hcm0
  obtain ⟨A1, n1, c1, rfl⟩ := okWide_slice Try.underlying22 (hval 1 22 v1 rfl rfl)
  obtain ⟨A1, c1, xs1, he1, _, hcm1, hall1, hR1⟩ := open_nested icells wfI Try.underlying22 Try.underlying29 (by kernel_rfl) (.int Try.underlying2) Try.cells64 (by decide) icells_length icells_of rfl h1
  cases he1
  have hxl1 : ∀ xs ∈ xs1, xs.length ≤ 9223372036854775807 := fun xs hxs => by have := (hall1 xs hxs).1; unfold maxLen at this; omega
  have hwf1 : ∀ xs ∈ xs1, ∀ x ∈ xs, wfI x := fun xs hxs => (hall1 xs hxs).2
  unfold maxLen at hcm1
  exact sm7Law_any xs0 xs1 A0 c0 A1 c1 W (by omega) hR0 hxl0 hwf0 (by omega) hR1 hxl1 hwf1

theorem fnExactSameMarks_holds : Rows.FnExactSameMarksSaid :=
  OpenClaim.holds_of_wide 3 Try.f3 rfl rfl rfl rfl rfl rfl rfl ⟨rfl, rfl, rfl, rfl, rfl⟩ rfl rfl rfl rfl rfl (by kernel_rfl) Try.func3 (by kernel_rfl)
    (of_decide_eq_true (by kernel_rfl)) (by unfold Func.isWrapper; rw [if_neg (of_decide_eq_false (by kernel_rfl))]; exact ⟨rfl, rfl⟩)
    (fun os started H enc _ => fnExactSameMarks_lifted os started H enc)
#print axioms fnExactSameMarks_holds
end Go.Proofs.Ytajnkkiabjiplaa
