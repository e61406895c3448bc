/-
  FnExactAgreementOf: for all arguments the law returns true, and they read as before. No condition but that the sentinel errors hold what the program's text lays (tied).
-/
import Derived.Test.YtglhjdnencpdiaaDoorCards
import Derived.Test.YtglhjdnencpdiaaDoorTie
import Derived.Test.YtglhjdnencpdiaaDoorG
import Derived.Test.YtglhjdnencpdiaaDoorZh
import Derived.Test.YtglhjdnencpdiaaDoorGk
import Derived.SevenTiedAt
namespace Go.Proofs.YtglhjdnencpdiaaDoor
open Go.ChangeShapes Go.WideShapes Go.ChangeAt Go.RowKit Go.Deep

set_option maxRecDepth 100000 in
set_option maxHeartbeats 4000000 in
theorem ag7Law_any (m : List (List Int)) (xs : List Int) (A : Option Addr) (c : Nat) (B : Option Addr) (d : Nat) (n : Int) (ad : Nat → Addr) (w : World) (hl0 : m.length ≤ 9223372036854775807) (hr0 : RdN w w.heap.size icells A m) (hx0 : ∀ xs ∈ m, xs.length ≤ 9223372036854775807) (hw0 : ∀ xs ∈ m, ∀ x ∈ xs, wfI x) (hl1 : xs.length ≤ 9223372036854775807) (hr1 : Rd w w.heap.size icells B xs) (hw1 : ∀ x ∈ xs, wfI x) (hsn : wfI6 n) (hE : EW 7 w ad) :
    Calls Tryd.prog 6 #[.int .i64 n, .slice A m.length c, .slice B xs.length d] w (Good w) := by
  have HR0 := Lib.hid hr0
  have HW0 := Lib.hid hw0
  have HR1 := Lib.hid hr1
  have HW1 := Lib.hid hw1
  have HSn := Lib.hid hsn
  have HE := Lib.hid hE
  clear hE
  clear hr0 hw0 hr1 hw1 hsn
  go_enter Tryd.func6, Tryd.ntmps6
  by_cases hq1 : (1048576 : Int) < xs.length
  · go_wp2
    go_ret
    exact ⟨rfl, (Below.refl _ _)⟩
  have hm1 : xs.length ≤ 1048576 := by omega
  go_wp2_with fail
  refine (szMarks_any m A c (1048576) hl0 hx0 ⟨by omega, by omega⟩ _ HR0.out).mono ?_
  rintro e w' ⟨rfl, rfl⟩
  by_cases hn0 : (1048576 : Int) < (m.length + sumL m)
  · rw [if_pos hn0]
    go_wp2
    go_ret
    exact ⟨rfl, (Below.refl _ _)⟩
  rw [if_neg hn0]
  have hz0 : (0 : Int) ≤ 1048576 - (m.length + sumL m) := by omega
  have hm0 : m.length ≤ 1048576 := by omega
  have hsm0 : sumL m ≤ 1048576 := by omega
  have hxm0 : ∀ xs ∈ m, xs.length ≤ 1048576 := fun xs hxs => by obtain ⟨j, hj, rfl⟩ := List.mem_iff_getElem.1 hxs; have := le_sumL (List.getElem?_eq_getElem hj); omega
  have HB_0 : Hid (Below w.heap.size w w) := Below.refl _ _
  go_wp2_with fail
  refine (toMarks_any m A c _ hm0 hxm0 (HR0.out.keep HB_0.out)).mono ?_
  rintro e w1 ⟨rfl, ⟨gsY0, hR⟩, hb⟩
  have HB_1 : Hid (Below w.heap.size w w1) := HB_0.out.trans (hb.mono HB_0.out.size)
  clear hb HB_0
  have Y0_1 : Hid (RsN w1 w.heap.size 34 2 icells m gsY0) := hR
  clear hR
  go_wp2_with fail
  refine (toInt64S_any xs B d _ hm1 (HR1.out.keep HB_1.out)).mono ?_
  rintro e w2 ⟨rfl, hR, hb⟩
  have HB_2 : Hid (Below w.heap.size w w2) := HB_1.out.trans (hb.mono HB_1.out.size)
  have Y0_2 : Hid (RsN w2 w.heap.size 34 2 icells m gsY0) := Y0_1.out.keep hb
  clear hb HB_1 Y0_1
  have Y1_2 : Hid (Rs w2 w1.heap.size 2 icells xs) := hR
  clear hR
  go_wp2_with fail
  refine (specAgreement_any n m xs _ _ _ _ _ hm0 hxm0 hm1 (Nat.le_refl _) Y0_2.out.rd (Y1_2.out.rd Y1_2.out.lt)).mono ?_
  rintro e w3 ⟨rfl, hb⟩
  clear Y0_2
  clear Y1_2
  have HB_3 : Hid (Below w.heap.size w w3) := HB_2.out.trans (hb.mono HB_2.out.size)
  clear hb HB_2
  obtain ⟨cd0, hcd0⟩ : ∃ c, agA n m xs = c := ⟨_, rfl⟩
  have HCD0 := Lib.hid hcd0
  clear hcd0
  rw [HCD0.out]
  obtain ⟨cd1, hcd1⟩ : ∃ c, agC n m xs = c := ⟨_, rfl⟩
  have HCD1 := Lib.hid hcd1
  clear hcd1
  rw [HCD1.out]
  go_wp2_with fail
  refine (toMarks_any m A c _ hm0 hxm0 (HR0.out.keep HB_3.out)).mono ?_
  rintro e w4 ⟨rfl, ⟨gsX0, hR⟩, hb⟩
  have LE0 : Hid (w.heap.size ≤ w3.heap.size) := HB_3.out.size
  have HB_4 : Hid (Below w.heap.size w w4) := HB_3.out.trans (hb.mono HB_3.out.size)
  clear hb HB_3
  have X0_4 : Hid (RsN w4 w3.heap.size 34 2 icells m gsX0) := hR
  clear hR
  go_wp2_with fail
  refine (toInt64S_any xs B d _ hm1 (HR1.out.keep HB_4.out)).mono ?_
  rintro e w5 ⟨rfl, hR, hb⟩
  have LE1 : Hid (w.heap.size ≤ w4.heap.size) := HB_4.out.size
  have LE2 : Hid (w3.heap.size < w4.heap.size) := X0_4.out.lt
  have HB_5 : Hid (Below w.heap.size w w5) := HB_4.out.trans (hb.mono HB_4.out.size)
  have X0_5 : Hid (RsN w5 w3.heap.size 34 2 icells m gsX0) := X0_4.out.keep hb
  clear hb HB_4 X0_4
  have X1_5 : Hid (Rs w5 w4.heap.size 2 icells xs) := hR
  clear hR
  go_wp2_with fail
  refine (implAgreement_any n m xs _ _ _ _ ad _ hm0 hxm0 hm1 X0_5.out.rd (X1_5.out.rd X1_5.out.lt) (HE.out.below HB_5.out (Nat.le_refl _))).mono ?_
  rintro e w6 ⟨rfl, hb⟩
  have HB_6 : Hid (Below w.heap.size w w6) := HB_5.out.trans (hb.mono HB_5.out.size)
  have X0_6 : Hid (RsN w6 w3.heap.size 34 2 icells m gsX0) := X0_5.out.keep hb
  have X1_6 : Hid (Rs w6 w4.heap.size 2 icells xs) := Blk.keep X1_5.out hb
  clear hb HB_5 X0_5 X1_5
  rw [HCD0.out]
  rw [HCD1.out]
  go_wp2_with fail
  refine (toMarks_any m A c _ hm0 hxm0 (HR0.out.keep HB_6.out)).mono ?_
  rintro e w7 ⟨rfl, ⟨gsZ0, hR⟩, hb⟩
  have HB_7 : Hid (Below w.heap.size w w7) := HB_6.out.trans (hb.mono HB_6.out.size)
  have X0_7 : Hid (RsN w7 w3.heap.size 34 2 icells m gsX0) := X0_6.out.keep hb
  have X1_7 : Hid (Rs w7 w4.heap.size 2 icells xs) := Blk.keep X1_6.out hb
  clear hb HB_6 X0_6 X1_6
  have Z0_7 : Hid (RsN w7 w6.heap.size 34 2 icells m gsZ0) := hR
  clear hR
  go_wp2_with fail
  refine (eqMarks_same m _ _ _ _ _ (by omega) hxm0 X0_7.out.rd Z0_7.out.rd).mono ?_
  rintro e w8 ⟨rfl, hb⟩
  clear Z0_7
  have HB_8 : Hid (Below w.heap.size w w8) := HB_7.out.trans (hb.mono HB_7.out.size)
  have X0_8 : Hid (RsN w8 w3.heap.size 34 2 icells m gsX0) := X0_7.out.keep hb
  have X1_8 : Hid (Rs w8 w4.heap.size 2 icells xs) := Blk.keep X1_7.out hb
  clear hb HB_7 X0_7 X1_7
  go_wp2_with fail
  refine (toInt64S_any xs B d _ hm1 (HR1.out.keep HB_8.out)).mono ?_
  rintro e w9 ⟨rfl, hR, hb⟩
  have HB_9 : Hid (Below w.heap.size w w9) := HB_8.out.trans (hb.mono HB_8.out.size)
  have X0_9 : Hid (RsN w9 w3.heap.size 34 2 icells m gsX0) := X0_8.out.keep hb
  have X1_9 : Hid (Rs w9 w4.heap.size 2 icells xs) := Blk.keep X1_8.out hb
  clear hb HB_8 X0_8 X1_8
  have Z1_9 : Hid (Rs w9 w8.heap.size 2 icells xs) := hR
  clear hR
  go_wp2_with fail
  refine (eqInt64S_same xs _ _ _ _ _ (by omega) (X1_9.out.rd X1_9.out.lt) (Z1_9.out.rd Z1_9.out.lt)).mono ?_
  rintro e w10 ⟨rfl, hb⟩
  clear Z1_9
  have HB_10 : Hid (Below w.heap.size w w10) := HB_9.out.trans (hb.mono HB_9.out.size)
  have X0_10 : Hid (RsN w10 w3.heap.size 34 2 icells m gsX0) := X0_9.out.keep hb
  have X1_10 : Hid (Rs w10 w4.heap.size 2 icells xs) := Blk.keep X1_9.out hb
  clear hb HB_9 X0_9 X1_9
  go_wp2
  go_ret
  exact ⟨rfl, HB_10.out⟩


set_option maxRecDepth 100000 in
theorem fnExactAgreementOf_lifted (os : Os) (started : os.Started) (H : Type) (enc : TypeId × Value → H) :
    ReturnsInHanded {} Tryd.checked os 6 .any (fun w args => (Rows.fnExactAgreementOfSpec.pre enc Tryd.prog Tryd.f6 Rows.fnExactAgreementOfRow.domain false w args ∧ laidMetH Tryd.prog (lay sl7) w) ∧ sizedMet enc Tryd.prog Tryd.f6 (OpenSpec.ofChange Rows.fnExactAgreementOfSpec) false w args)
      (Rows.fnExactAgreementOfSpec.post enc Tryd.prog Tryd.f6 false true false false) := by
  refine law_liftL (C := Tryd.checked) 3 7 Tryd.own started (by kernel_rfl) Tryd.func6
    (ChangeSpec.witness_shaped (enc := enc) (C := Tryd.checked) (os := os) (X := fun w _ => laidMetH Tryd.prog (lay sl7) w) false (World.doorLaid Tryd.prog 142 os) #[.int .i64 0, .slice none 0 0, .slice none 0 0] 8 rfl (World.shaped_of_RefB (by kernel_rfl) (by kernel_rfl)) (by kernel_rfl) (by kernel_rfl) (by kernel_rfl)
      (laidMetH_of_parts3 (fuel := 8) (laidMet_of_run' 8 (by kernel_rfl) (by kernel_rfl)) (by kernel_rfl) (by kernel_rfl)))
    Tryd.laidOut (by kernel_rfl) rfl (by kernel_rfl) Tryd.underlying4 (by kernel_rfl) (by kernel_rfl)
    (fun ds gs h h' => by match ds, gs, h, h' with | [d1, d2, d3], [g1, g2, g3, g4, g5, g6, g7], _, _ => rfl) ?_
  intro W base args ds p hL hval hA
  rw [Tryd.params6] at hA hval
  obtain ⟨v0, v1, v2, d0, d1, d2, r0, r1, r2, rfl, rfl, rfl, h0, h1, h2⟩ := trodAll_three hA
  obtain ⟨n, rfl, rfl, rfl, wn0⟩ := open_int Tryd.underlying2 (hval 0 2 v0 rfl rfl) h0
  obtain ⟨A0, n0, c0, rfl⟩ := okWide_slice Tryd.underlying22 (hval 1 22 v1 rfl rfl)
  obtain ⟨A0, c0, xs0, he0, _, hcm0, hall0, hR0⟩ := open_nested icells wfI Tryd.underlying22 Tryd.underlying34 (by kernel_rfl) (.int Tryd.underlying2) Tryd.cells64 (by decide) icells_length icells_of rfl h1
  cases he0
  have hxl0 : ∀ xs ∈ xs0, xs.length ≤ 9223372036854775807 := fun xs hxs => by have := (hall0 xs hxs).1; unfold maxLen at this; omega
  have hwf0 : ∀ xs ∈ xs0, ∀ x ∈ xs, wfI x := fun xs hxs => (hall0 xs hxs).2
  unfold maxLen at hcm0
  obtain ⟨A1, n1, c1, rfl⟩ := okWide_slice Tryd.underlying34 (hval 2 34 v2 rfl rfl)
  obtain ⟨A1, c1, xs1, he1, _, hcm1, hwf1, hR1⟩ := open_rows icells wfI Tryd.underlying34 (.int Tryd.underlying2) Tryd.cells64 (by decide) icells_length icells_of rfl h2
  cases he1
  unfold maxLen at hcm1
  obtain ⟨ad, hE⟩ := ew7_of hL
  exact ag7Law_any xs0 xs1 A0 c0 A1 c1 n ad W (by omega) hR0 hxl0 hwf0 (by omega) hR1 hwf1 (bounds_i64 wn0) hE

theorem fnExactAgreementOf_row : Rows.FnExactAgreementOfSaid :=
  OpenClaim.holds_of_wide 6 Tryd.f6 rfl rfl rfl rfl rfl rfl rfl ⟨rfl, rfl, rfl, rfl, rfl⟩ rfl rfl rfl rfl rfl (by kernel_rfl) Tryd.func6 (by kernel_rfl)
    (of_decide_eq_true (by kernel_rfl)) (by unfold Func.isWrapper; rw [if_neg (of_decide_eq_false (by kernel_rfl))]; exact ⟨rfl, rfl⟩)
    (fun os started H enc _ => fnExactAgreementOf_lifted os started H enc)

theorem fnExactAgreementOf_card : Rows.FnExactAgreementOfCardSaid :=
  Claim7.holds_tied_plain_at .later [] [.sentinel, .sentinel, .sentinel, .sentinel, .sentinel, .sentinel, .sentinel] true (true, "fecc6f1db1843877fb7e69534255bb22820d7418896dee5ebf9d7941b0f2ac98") true
    fnExactAgreementOf_row (fun _ h => by cases h) (by kernel_rfl) (fun _ h => by cases h) fnExactAgreementOf_row_tie rfl ⟨rfl, rfl⟩ (by kernel_rfl) rfl
    (fun f fn hf hfn => by
      obtain rfl : f = 6 := Option.some.inj ((show Tryd.prog.funcNamed "loop.example/g01353/laws.FnExactAgreementOf" = some 6 by kernel_rfl).symm.trans hf) |>.symm
      obtain rfl : fn = Tryd.f6 := (Option.some.inj (Tryd.func6.symm.trans hfn)).symm
      exact ⟨by kernel_rfl, fun j t ht => by
        have hm : t ∈ Tryd.f6.params.toList := Array.mem_toList_iff.2 (Array.mem_of_getElem? ht)
        have hall : (Tryd.f6.params.toList.all fun u => !Tryd.prog.wantsStandIn u) = true := by kernel_rfl
        exact (show Tryd.prog.wantsStandIn t = false by simpa using List.all_eq_true.1 hall t hm)⟩)
    (by kernel_rfl)
#print axioms fnExactAgreementOf_card
end Go.Proofs.YtglhjdnencpdiaaDoor
