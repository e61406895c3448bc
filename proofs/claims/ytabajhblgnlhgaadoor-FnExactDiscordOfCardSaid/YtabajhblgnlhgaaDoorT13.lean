/-
  FnExactDiscordOf: for all arguments the law returns true, and they read as before. No condition but that the sentinel errors hold what the program's text lays (tied).
-/
import Derived.Test.YtabajhblgnlhgaaDoorCards
import Derived.Test.YtabajhblgnlhgaaDoorTie
import Derived.Test.YtabajhblgnlhgaaDoorG
import Derived.Test.YtabajhblgnlhgaaDoorZz
import Derived.Test.YtabajhblgnlhgaaDoorGk
import Derived.SevenTiedAt
namespace Go.Proofs.YtabajhblgnlhgaaDoor
open Go.ChangeShapes Go.WideShapes Go.ChangeAt Go.RowKit Go.Deep

set_option maxRecDepth 100000 in
set_option maxHeartbeats 4000000 in
theorem dc7Law_any (xs : List Int) (ys : List Int) (A : Option Addr) (c : Nat) (B : Option Addr) (d : Nat) (n : Int) (ad : Nat → Addr) (w : World) (hl0 : xs.length ≤ 9223372036854775807) (hr0 : Rd w w.heap.size icells A xs) (hw0 : ∀ x ∈ xs, wfI x) (hl1 : ys.length ≤ 9223372036854775807) (hr1 : Rd w w.heap.size icells B ys) (hw1 : ∀ x ∈ ys, wfI x) (hsn : wfI6 n) (hE : EW 5 w ad) :
    Calls Tryd.prog 4 #[.int .i64 n, .slice A xs.length c, .slice B ys.length d] w (Good w) := by
  have HR0 := Lib.hid hr0
  have HW0 := Lib.hid hw0
  have HR1 := Lib.hid hr1
  have HW1 := Lib.hid hw1
  have HSn := Lib.hid hsn
  have HE := Lib.hid hE
  clear hE
  clear hr0 hw0 hr1 hw1 hsn
  go_enter Tryd.func4, Tryd.ntmps4
  by_cases hq0 : (1048576 : Int) < xs.length
  · go_wp2
    go_ret
    exact ⟨rfl, (Below.refl _ _)⟩
  have hm0 : xs.length ≤ 1048576 := by omega
  by_cases hq1 : (1048576 : Int) < ys.length
  · go_wp2
    go_ret
    exact ⟨rfl, (Below.refl _ _)⟩
  have hm1 : ys.length ≤ 1048576 := by omega
  have HB_0 : Hid (Below w.heap.size w w) := Below.refl _ _
  go_wp2_with fail
  refine (toInt64S_any xs A c _ hm0 (HR0.out.keep HB_0.out)).mono ?_
  rintro e w1 ⟨rfl, hR, hb⟩
  have HB_1 : Hid (Below w.heap.size w w1) := HB_0.out.trans (hb.mono HB_0.out.size)
  clear hb HB_0
  have Y0_1 : Hid (Rs w1 w.heap.size 2 icells xs) := hR
  clear hR
  go_wp2_with fail
  refine (toInt64S_any ys B d _ hm1 (HR1.out.keep HB_1.out)).mono ?_
  rintro e w2 ⟨rfl, hR, hb⟩
  have HB_2 : Hid (Below w.heap.size w w2) := HB_1.out.trans (hb.mono HB_1.out.size)
  have Y0_2 : Hid (Rs w2 w.heap.size 2 icells xs) := Blk.keep Y0_1.out hb
  clear hb HB_1 Y0_1
  have Y1_2 : Hid (Rs w2 w1.heap.size 2 icells ys) := hR
  clear hR
  go_wp2_with fail
  refine (specDiscord_any n xs ys _ _ _ _ _ hm0 hm1 (Nat.le_refl _) (Nat.le_refl _) (Y0_2.out.rd Y0_2.out.lt) (Y1_2.out.rd Y1_2.out.lt)).mono ?_
  rintro e w3 ⟨rfl, hb⟩
  clear Y0_2
  clear Y1_2
  have HB_3 : Hid (Below w.heap.size w w3) := HB_2.out.trans (hb.mono HB_2.out.size)
  clear hb HB_2
  obtain ⟨cd0, hcd0⟩ : ∃ c, dcA n xs ys = c := ⟨_, rfl⟩
  have HCD0 := Lib.hid hcd0
  clear hcd0
  rw [HCD0.out]
  obtain ⟨cd1, hcd1⟩ : ∃ c, dcC n xs ys = c := ⟨_, rfl⟩
  have HCD1 := Lib.hid hcd1
  clear hcd1
  rw [HCD1.out]
  go_wp2_with fail
  refine (toInt64S_any xs A c _ hm0 (HR0.out.keep HB_3.out)).mono ?_
  rintro e w4 ⟨rfl, hR, hb⟩
  have LE0 : Hid (w.heap.size ≤ w3.heap.size) := HB_3.out.size
  have HB_4 : Hid (Below w.heap.size w w4) := HB_3.out.trans (hb.mono HB_3.out.size)
  clear hb HB_3
  have X0_4 : Hid (Rs w4 w3.heap.size 2 icells xs) := hR
  clear hR
  go_wp2_with fail
  refine (toInt64S_any ys B d _ hm1 (HR1.out.keep HB_4.out)).mono ?_
  rintro e w5 ⟨rfl, hR, hb⟩
  have LE1 : Hid (w.heap.size ≤ w4.heap.size) := HB_4.out.size
  have LE2 : Hid (w3.heap.size < w4.heap.size) := X0_4.out.lt
  have HB_5 : Hid (Below w.heap.size w w5) := HB_4.out.trans (hb.mono HB_4.out.size)
  have X0_5 : Hid (Rs w5 w3.heap.size 2 icells xs) := Blk.keep X0_4.out hb
  clear hb HB_4 X0_4
  have X1_5 : Hid (Rs w5 w4.heap.size 2 icells ys) := hR
  clear hR
  go_wp2_with fail
  refine (implDiscord_any n xs ys _ _ _ _ ad _ hm0 hm1 (X0_5.out.rd X0_5.out.lt) (X1_5.out.rd X1_5.out.lt) (HE.out.below HB_5.out (Nat.le_refl _))).mono ?_
  rintro e w6 ⟨rfl, hb⟩
  have HB_6 : Hid (Below w.heap.size w w6) := HB_5.out.trans (hb.mono HB_5.out.size)
  have X0_6 : Hid (Rs w6 w3.heap.size 2 icells xs) := Blk.keep X0_5.out hb
  have X1_6 : Hid (Rs w6 w4.heap.size 2 icells ys) := Blk.keep X1_5.out hb
  clear hb HB_5 X0_5 X1_5
  rw [HCD0.out]
  rw [HCD1.out]
  go_wp2_with fail
  refine (toInt64S_any xs A c _ hm0 (HR0.out.keep HB_6.out)).mono ?_
  rintro e w7 ⟨rfl, hR, hb⟩
  have HB_7 : Hid (Below w.heap.size w w7) := HB_6.out.trans (hb.mono HB_6.out.size)
  have X0_7 : Hid (Rs w7 w3.heap.size 2 icells xs) := Blk.keep X0_6.out hb
  have X1_7 : Hid (Rs w7 w4.heap.size 2 icells ys) := Blk.keep X1_6.out hb
  clear hb HB_6 X0_6 X1_6
  have Z0_7 : Hid (Rs w7 w6.heap.size 2 icells xs) := hR
  clear hR
  go_wp2_with fail
  refine (eqInt64S_same xs _ _ _ _ _ (by omega) (X0_7.out.rd X0_7.out.lt) (Z0_7.out.rd Z0_7.out.lt)).mono ?_
  rintro e w8 ⟨rfl, hb⟩
  clear Z0_7
  have HB_8 : Hid (Below w.heap.size w w8) := HB_7.out.trans (hb.mono HB_7.out.size)
  have X0_8 : Hid (Rs w8 w3.heap.size 2 icells xs) := Blk.keep X0_7.out hb
  have X1_8 : Hid (Rs w8 w4.heap.size 2 icells ys) := Blk.keep X1_7.out hb
  clear hb HB_7 X0_7 X1_7
  go_wp2_with fail
  refine (toInt64S_any ys B d _ hm1 (HR1.out.keep HB_8.out)).mono ?_
  rintro e w9 ⟨rfl, hR, hb⟩
  have HB_9 : Hid (Below w.heap.size w w9) := HB_8.out.trans (hb.mono HB_8.out.size)
  have X0_9 : Hid (Rs w9 w3.heap.size 2 icells xs) := Blk.keep X0_8.out hb
  have X1_9 : Hid (Rs w9 w4.heap.size 2 icells ys) := Blk.keep X1_8.out hb
  clear hb HB_8 X0_8 X1_8
  have Z1_9 : Hid (Rs w9 w8.heap.size 2 icells ys) := hR
  clear hR
  go_wp2_with fail
  refine (eqInt64S_same ys _ _ _ _ _ (by omega) (X1_9.out.rd X1_9.out.lt) (Z1_9.out.rd Z1_9.out.lt)).mono ?_
  rintro e w10 ⟨rfl, hb⟩
  clear Z1_9
  have HB_10 : Hid (Below w.heap.size w w10) := HB_9.out.trans (hb.mono HB_9.out.size)
  have X0_10 : Hid (Rs w10 w3.heap.size 2 icells xs) := Blk.keep X0_9.out hb
  have X1_10 : Hid (Rs w10 w4.heap.size 2 icells ys) := Blk.keep X1_9.out hb
  clear hb HB_9 X0_9 X1_9
  go_wp2
  go_ret
  exact ⟨rfl, HB_10.out⟩


set_option maxRecDepth 100000 in
theorem fnExactDiscordOf_lifted (os : Os) (started : os.Started) (H : Type) (enc : TypeId × Value → H) :
    ReturnsInHanded {} Tryd.checked os 4 .any (fun w args => (Rows.fnExactDiscordOfSpec.pre enc Tryd.prog Tryd.f4 Rows.fnExactDiscordOfRow.domain false w args ∧ laidMetH Tryd.prog (lay sl6) w) ∧ sizedMet enc Tryd.prog Tryd.f4 (OpenSpec.ofChange Rows.fnExactDiscordOfSpec) false w args)
      (Rows.fnExactDiscordOfSpec.post enc Tryd.prog Tryd.f4 false true false false) := by
  refine law_liftL (C := Tryd.checked) 3 6 Tryd.own started (by kernel_rfl) Tryd.func4
    (ChangeSpec.witness_shaped (enc := enc) (C := Tryd.checked) (os := os) (X := fun w _ => laidMetH Tryd.prog (lay sl6) w) false (World.doorLaid Tryd.prog 142 os) #[.int .i64 0, .slice none 0 0, .slice none 0 0] 8 rfl (World.shaped_of_RefB (by kernel_rfl) (by kernel_rfl)) (by kernel_rfl) (by kernel_rfl) (by kernel_rfl)
      (laidMetH_of_parts3 (fuel := 8) (laidMet_of_run' 8 (by kernel_rfl) (by kernel_rfl)) (by kernel_rfl) (by kernel_rfl)))
    Tryd.laidOut (by kernel_rfl) rfl (by kernel_rfl) Tryd.underlying4 (by kernel_rfl) (by kernel_rfl)
    (fun ds gs h h' => by match ds, gs, h, h' with | [d1, d2, d3], [g1, g2, g3, g4, g5, g6], _, _ => rfl) ?_
  intro W base args ds p hL hval hA
  rw [Tryd.params4] at hA hval
  obtain ⟨v0, v1, v2, d0, d1, d2, r0, r1, r2, rfl, rfl, rfl, h0, h1, h2⟩ := trodAll_three hA
  obtain ⟨n, rfl, rfl, rfl, wn0⟩ := open_int Tryd.underlying2 (hval 0 2 v0 rfl rfl) h0
  obtain ⟨A0, n0, c0, rfl⟩ := okWide_slice Tryd.underlying23 (hval 1 23 v1 rfl rfl)
  obtain ⟨A0, c0, xs0, he0, _, hcm0, hwf0, hR0⟩ := open_rows icells wfI Tryd.underlying23 (.int Tryd.underlying2) Tryd.cells64 (by decide) icells_length icells_of rfl h1
  cases he0
  unfold maxLen at hcm0
  obtain ⟨A1, n1, c1, rfl⟩ := okWide_slice Tryd.underlying23 (hval 2 23 v2 rfl rfl)
  obtain ⟨A1, c1, xs1, he1, _, hcm1, hwf1, hR1⟩ := open_rows icells wfI Tryd.underlying23 (.int Tryd.underlying2) Tryd.cells64 (by decide) icells_length icells_of rfl h2
  cases he1
  unfold maxLen at hcm1
  obtain ⟨ad, hE⟩ := ew5_of hL
  exact dc7Law_any xs0 xs1 A0 c0 A1 c1 n ad W (by omega) hR0 hwf0 (by omega) hR1 hwf1 (bounds_i64 wn0) hE

theorem fnExactDiscordOf_row : Rows.FnExactDiscordOfSaid :=
  OpenClaim.holds_of_wide 4 Tryd.f4 rfl rfl rfl rfl rfl rfl rfl ⟨rfl, rfl, rfl, rfl, rfl⟩ rfl rfl rfl rfl rfl (by kernel_rfl) Tryd.func4 (by kernel_rfl)
    (of_decide_eq_true (by kernel_rfl)) (by unfold Func.isWrapper; rw [if_neg (of_decide_eq_false (by kernel_rfl))]; exact ⟨rfl, rfl⟩)
    (fun os started H enc _ => fnExactDiscordOf_lifted os started H enc)

theorem fnExactDiscordOf_card : Rows.FnExactDiscordOfCardSaid :=
  Claim7.holds_tied_plain_at .later [] [.sentinel, .sentinel, .sentinel, .sentinel, .sentinel, .sentinel] true (true, "0312277c4732e1a98052b6587d81b2ffe1c2357ba93482909bce04ecc76a12ee") true
    fnExactDiscordOf_row (fun _ h => by cases h) (by kernel_rfl) (fun _ h => by cases h) fnExactDiscordOf_row_tie rfl ⟨rfl, rfl⟩ (by kernel_rfl) rfl
    (fun f fn hf hfn => by
      obtain rfl : f = 4 := Option.some.inj ((show Tryd.prog.funcNamed "loop.example/g01353/laws.FnExactDiscordOf" = some 4 by kernel_rfl).symm.trans hf) |>.symm
      obtain rfl : fn = Tryd.f4 := (Option.some.inj (Tryd.func4.symm.trans hfn)).symm
      exact ⟨by kernel_rfl, fun j t ht => by
        have hm : t ∈ Tryd.f4.params.toList := Array.mem_toList_iff.2 (Array.mem_of_getElem? ht)
        have hall : (Tryd.f4.params.toList.all fun u => !Tryd.prog.wantsStandIn u) = true := by kernel_rfl
        exact (show Tryd.prog.wantsStandIn t = false by simpa using List.all_eq_true.1 hall t hm)⟩)
    (by kernel_rfl)
#print axioms fnExactDiscordOf_card
end Go.Proofs.YtabajhblgnlhgaaDoor
