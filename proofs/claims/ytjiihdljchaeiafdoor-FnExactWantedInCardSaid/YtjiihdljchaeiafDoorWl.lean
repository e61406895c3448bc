/-
  FnExactWantedIn: for every order the law returns true, and its argument reads as before. No condition but that the sentinel errors hold what the program's text lays (tied).
-/
import Derived.Test.YtjiihdljchaeiafDoorCards
import Derived.Test.YtjiihdljchaeiafDoorTie
import Derived.Test.YtjiihdljchaeiafDoorG
import Derived.Test.YtjiihdljchaeiafDoorWi
import Derived.SevenTiedAt
namespace Go.Proofs.YtjiihdljchaeiafDoor
open Go.ChangeShapes Go.WideShapes Go.ChangeAt Go.RowKit Go.Deep

set_option maxRecDepth 100000 in
set_option maxHeartbeats 1000000 in
theorem wiLaw_any (xs : List Wnt) (hwf : ∀ x ∈ xs, wfW x) (A : Option Addr) (c : Nat) (ad : Nat → Addr) (w : World) (hl : xs.length ≤ 9223372036854775807) (hr : Rd w w.heap.size wcells A xs) (hE : EW 7 w ad) :
    Calls Tryd.prog 6 #[.slice A xs.length c] w (Good w) := by
  have HR := Lib.hid hr
  have HW := Lib.hid hwf
  have HE := Lib.hid hE
  clear hr hwf hE
  go_enter Tryd.func6, Tryd.ntmps6
  go_wp2_with fail
  refine (szWantS_any A xs.length c 1048576 hl ⟨by omega, by omega⟩ _).mono ?_
  rintro e w' ⟨rfl, rfl⟩
  by_cases hn : (1048576 : Int) < xs.length
  · rw [if_pos hn]
    go_wp2
    go_ret
    exact ⟨rfl, Below.refl _ _⟩
  rw [if_neg hn]
  have hn0 : (0 : Int) ≤ 1048576 - xs.length := by omega
  have hl2 : xs.length ≤ 1048576 := by omega
  go_wp2_with fail
  refine (toWantS_any xs A c _ hl2 HR.out).mono ?_
  rintro e w1 ⟨rfl, hR1, hb1⟩
  have HB1 := Lib.hid hb1
  have HR1 := Lib.hid hR1
  clear hb1 hR1
  go_wp2_with fail
  refine (specWanted_any xs HW.out _ _ _ hl2 (HR1.out.rd HR1.out.lt)).mono ?_
  rintro e w2 ⟨rfl, hb2⟩
  have HB2 : Hid (Below w.heap.size w w2) := HB1.out.trans (hb2.mono HB1.out.size)
  clear hb2
  obtain ⟨s, k, hsk⟩ : ∃ s k : Int, wiV xs = .tuple #[.int .i64 s, .int .i64 k] := by unfold wiV; split <;> exact ⟨_, _, rfl⟩
  have HV := Lib.hid hsk
  clear hsk
  rw [HV.out]
  go_wp2_with fail
  refine (toWantS_any xs A c _ hl2 (HR.out.keep HB2.out)).mono ?_
  rintro e w3 ⟨rfl, hR3, hb3⟩
  have HB3 : Hid (Below w.heap.size w w3) := HB2.out.trans (hb3.mono HB2.out.size)
  have HR3 := Lib.hid hR3
  clear hb3 hR3
  go_wp2_with fail
  refine (implWanted_any xs HW.out _ _ ad _ hl2 (HR3.out.rd HR3.out.lt) (HE.out.below HB3.out (Nat.le_refl _))).mono ?_
  rintro e w4 ⟨rfl, hb4⟩
  have HB4 : Hid (Below w.heap.size w w4) := HB3.out.trans (hb4.mono HB3.out.size)
  have HR4 : Hid (Rs w4 w2.heap.size 64 wcells xs) := Blk.keep HR3.out hb4
  clear hb4
  rw [HV.out]
  go_wp2_with fail
  refine (toWantS_any xs A c _ hl2 (HR.out.keep HB4.out)).mono ?_
  rintro e w5 ⟨rfl, hR5, hb5⟩
  have HB5 : Hid (Below w.heap.size w w5) := HB4.out.trans (hb5.mono HB4.out.size)
  have HR6 : Hid (Rs w5 w2.heap.size 64 wcells xs) := Blk.keep HR4.out hb5
  have HR5 := Lib.hid hR5
  clear hb5 hR5
  go_wp2_with fail
  refine (eqWantS_same xs _ _ _ _ _ (by omega) (HR6.out.rd HR6.out.lt) (HR5.out.rd HR5.out.lt)).mono ?_
  rintro e w6 ⟨rfl, hb6⟩
  have HB6 : Hid (Below w.heap.size w w6) := HB5.out.trans (hb6.mono HB5.out.size)
  clear hb6
  go_wp2
  go_ret
  exact ⟨rfl, HB6.out⟩

set_option maxRecDepth 100000 in
theorem fnExactWantedIn_lifted (os : Os) (started : os.Started) (H : Type) (enc : TypeId × Value → H) :
    ReturnsInHanded {} Tryd.checked os 6 .any (fun w args => (Rows.fnExactWantedInSpec.pre enc Tryd.prog Tryd.f6 Rows.fnExactWantedInRow.domain false w args ∧ laidMetH Tryd.prog (lay sl7) w) ∧ sizedMet enc Tryd.prog Tryd.f6 (OpenSpec.ofChange Rows.fnExactWantedInSpec) false w args)
      (Rows.fnExactWantedInSpec.post enc Tryd.prog Tryd.f6 false true false false) := by
  refine law_liftL (C := Tryd.checked) 1 7 Tryd.own started (by kernel_rfl) Tryd.func6
    (ChangeSpec.witness_shaped (enc := enc) (C := Tryd.checked) (os := os) (X := fun w _ => laidMetH Tryd.prog (lay sl7) w) false (World.doorLaid Tryd.prog 142 os) #[.slice none 0 0] 8 rfl (World.shaped_of_RefB (by kernel_rfl) (by kernel_rfl)) (by kernel_rfl) (by kernel_rfl) (by kernel_rfl)
      (laidMetH_of_parts3 (fuel := 8) (laidMet_of_run' 8 (by kernel_rfl) (by kernel_rfl)) (by kernel_rfl) (by kernel_rfl)))
    Tryd.laidOut (by kernel_rfl) rfl (by kernel_rfl) Tryd.underlying4 (by kernel_rfl) (by kernel_rfl)
    (fun ds gs h h' => by match ds, gs, h, h' with | [d1], [g1, g2, g3, g4, g5, g6, g7], _, _ => rfl) ?_
  intro W base args ds p hL hval hA
  rw [Tryd.params6] at hA hval
  obtain ⟨v0, d0, rfl, rfl, h0⟩ := trodAll_one hA
  obtain ⟨A, n, c, rfl⟩ := okWide_slice Tryd.underlying38 (hval 0 38 v0 rfl rfl)
  obtain ⟨A, c, xs, he, hlc, hcm, hwf, hR⟩ := open_rows wcells wfW Tryd.underlying38 Tryd.flatWL Tryd.cellsWL (by decide) wcells_length wcells_of rfl h0
  cases he
  unfold maxLen at hcm
  obtain ⟨ad, hE⟩ := ew7_of hL
  exact wiLaw_any xs hwf A c ad W (by omega) hR hE

theorem fnExactWantedIn_row : Rows.FnExactWantedInSaid :=
  OpenClaim.holds_of_wide 6 Tryd.f6 rfl rfl rfl rfl rfl rfl rfl ⟨rfl, rfl, rfl, rfl, rfl⟩ rfl rfl rfl rfl rfl (by kernel_rfl) Tryd.func6 (by kernel_rfl)
    (of_decide_eq_true (by kernel_rfl)) (by unfold Func.isWrapper; rw [if_neg (of_decide_eq_false (by kernel_rfl))]; exact ⟨rfl, rfl⟩)
    (fun os started H enc _ => fnExactWantedIn_lifted os started H enc)

theorem fnExactWantedIn_card : Rows.FnExactWantedInCardSaid :=
  Claim7.holds_tied_plain_at .later [] [.sentinel, .sentinel, .sentinel, .sentinel, .sentinel, .sentinel, .sentinel] true (true, "9e9c3480a0ae119c33c92adc083ab7d9ee742b05bcb1b7fb9d102cb29e6f1cf3") true
    fnExactWantedIn_row (fun _ h => by cases h) (by kernel_rfl) (fun _ h => by cases h) fnExactWantedIn_row_tie rfl ⟨rfl, rfl⟩ (by kernel_rfl) rfl
    (fun f fn hf hfn => by
      obtain rfl : f = 6 := Option.some.inj ((show Tryd.prog.funcNamed "loop.example/g01353/laws.FnExactWantedIn" = some 6 by kernel_rfl).symm.trans hf) |>.symm
      obtain rfl : fn = Tryd.f6 := (Option.some.inj (Tryd.func6.symm.trans hfn)).symm
      exact ⟨by kernel_rfl, fun j t ht => by
        have hm : t ∈ Tryd.f6.params.toList := Array.mem_toList_iff.2 (Array.mem_of_getElem? ht)
        have hall : (Tryd.f6.params.toList.all fun u => !Tryd.prog.wantsStandIn u) = true := by kernel_rfl
        exact (show Tryd.prog.wantsStandIn t = false by simpa using List.all_eq_true.1 hall t hm)⟩)
    (by kernel_rfl)
#print axioms fnExactWantedIn_card
end Go.Proofs.YtjiihdljchaeiafDoor
