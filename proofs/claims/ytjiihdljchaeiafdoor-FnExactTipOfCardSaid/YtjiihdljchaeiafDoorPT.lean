/-
  FnExactTipOf: for every crate the law returns true, and its argument reads as before. No condition but that the sentinel errors hold what the program's text lays (tied).
-/
import Derived.Test.YtjiihdljchaeiafDoorCards
import Derived.Test.YtjiihdljchaeiafDoorTie
import Derived.Test.YtjiihdljchaeiafDoorG
import Derived.Test.YtjiihdljchaeiafDoorT
import Derived.SevenTiedAt
namespace Go.Proofs.YtjiihdljchaeiafDoor
open Go.ChangeShapes Go.WideShapes Go.ChangeAt Go.RowKit

theorem Tryd.sizeLc : (Tryd.prog.info? 25).map (·.size) = some 24 := by kernel_rfl

set_option maxRecDepth 100000 in
set_option maxHeartbeats 1000000 in
theorem tipLaw_any (bs : List Bot) (hwf : WfC bs) (ad : Nat → Addr) (w : World) (hE : EW 7 w ad) : Calls Tryd.prog 3 #[.agg (ccells bs).toArray] w (Good w) := by
  have HW := Lib.hid hwf
  have HE := Lib.hid hE
  clear hwf hE
  have HA := Lib.hid (CBlk.new w 25 bs)
  have HB0 : Hid (Below w.heap.size w (w.alloc (.cells (ccells bs).toArray 25))) := (Below.refl _ w).alloc (Nat.le_refl _) _
  go_enter Tryd.func3, Tryd.ntmps3
  go_wp2_with (refine wpList_load_row rfl 25 (.tmp 1) rfl w.heap.size rfl 25 _ (0, 0) _ HA.out Tryd.underlying25 rfl (size_of_crate Tryd.sizeLc _ HW.out.1) ?_)
  refine (toCrate_any bs HW.out.1 _).mono ?_
  rintro e w1 ⟨rfl, hb1⟩
  have H1 : Hid (Below w.heap.size w w1) := HB0.out.trans (hb1.mono HB0.out.size)
  have HA1 : Hid (CBlk w1 w.heap.size 25 bs) := HA.out.below hb1 HA.out.lt
  clear hb1 HA HB0
  go_wp2_with fail
  refine (specTip_any bs HW.out _).mono ?_
  rintro e w2 ⟨rfl, hb2⟩
  have H2 : Hid (Below w.heap.size w w2) := H1.out.trans (hb2.mono H1.out.size)
  have HA2 : Hid (CBlk w2 w.heap.size 25 bs) := HA1.out.below hb2 HA1.out.lt
  clear hb2 H1 HA1
  obtain ⟨vv, hvv, hcase⟩ : ∃ vv, okC bs = vv ∧ (okC bs = vv) := ⟨_, rfl, rfl⟩
  cases hok : okC bs
  all_goals
    have Hok := Lib.hid hok
    clear hvv hcase hok
    clear vv
    simp only [tipV, Bool.false_eq_true, if_false, if_true]
    go_wp2_with (refine wpList_load_row rfl 25 (.tmp 1) rfl w.heap.size rfl 25 _ (0, 0) _ HA2.out Tryd.underlying25 rfl (size_of_crate Tryd.sizeLc _ HW.out.1) ?_)
    refine (toCrate_any bs HW.out.1 _).mono ?_
    rintro e w3 ⟨rfl, hb3⟩
    have H3 : Hid (Below w.heap.size w w3) := H2.out.trans (hb3.mono H2.out.size)
    clear hb3
    go_wp2_with fail
    refine (implTip_any bs HW.out ad _ (HE.out.below H3.out (Nat.le_refl _))).mono ?_
    rintro e w4 ⟨rfl, hb4⟩
    have H4 : Hid (Below w.heap.size w w4) := H3.out.trans (hb4.mono H3.out.size)
    clear hb4
    rw [Hok.out]
    simp only [tipV, Bool.false_eq_true, if_false, if_true]
    go_wp2
    go_ret
    exact ⟨rfl, H4.out⟩

set_option maxRecDepth 100000 in
theorem fnExactTipOf_lifted (os : Os) (started : os.Started) (H : Type) (enc : TypeId × Value → H) :
    ReturnsInHanded {} Tryd.checked os 3 .any (fun w args => (Rows.fnExactTipOfSpec.pre enc Tryd.prog Tryd.f3 Rows.fnExactTipOfRow.domain false w args ∧ laidMetH Tryd.prog (lay sl7) w) ∧ sizedMet enc Tryd.prog Tryd.f3 (OpenSpec.ofChange Rows.fnExactTipOfSpec) false w args)
      (Rows.fnExactTipOfSpec.post enc Tryd.prog Tryd.f3 false true false false) := by
  refine law_liftL (C := Tryd.checked) 1 7 Tryd.own started (by kernel_rfl) Tryd.func3
    (ChangeSpec.witness_shaped (enc := enc) (C := Tryd.checked) (os := os) (X := fun w _ => laidMetH Tryd.prog (lay sl7) w) false (World.doorLaid Tryd.prog 142 os) #[.agg #[.int .u8 0, .int .i16 0, .int .u8 0, .int .i16 0, .int .u8 0, .int .i16 0, .int .u8 0, .int .i16 0, .int .u8 0, .int .i16 0, .int .u8 0, .int .i16 0, .int .u8 0, .int .i16 0, .int .u8 0, .int .i16 0, .int .u8 0, .int .i16 0, .int .u8 0, .int .i16 0, .int .u8 0, .int .i16 0, .int .u8 0, .int .i16 0]] 8 rfl (World.shaped_of_RefB (by kernel_rfl) (by kernel_rfl)) (by kernel_rfl) (by kernel_rfl) (by kernel_rfl)
      (laidMetH_of_parts3 (fuel := 8) (laidMet_of_run' 8 (by kernel_rfl) (by kernel_rfl)) (by kernel_rfl) (by kernel_rfl)))
    Tryd.laidOut (by kernel_rfl) rfl (by kernel_rfl) Tryd.underlying4 (by kernel_rfl) (by kernel_rfl)
    (fun ds gs h h' => by match ds, gs, h, h' with | [d1], [g1, g2, g3, g4, g5, g6, g7], _, _ => rfl) ?_
  intro W base args ds p hL hval hA
  rw [Tryd.params3] at hA hval
  obtain ⟨v0, d0, rfl, rfl, h0⟩ := trodAll_one hA
  obtain ⟨bs, hl, rfl, hwf⟩ := open_crate (n := 12) Tryd.underlying25 (by kernel_rfl) Tryd.underlying24 Tryd.underlying5 Tryd.underlying22 (by kernel_rfl) (by kernel_rfl) (hval 0 25 v0 rfl rfl) h0
  obtain ⟨ad, hE⟩ := ew7_of hL
  exact tipLaw_any bs ⟨hl, hwf⟩ ad W hE

theorem fnExactTipOf_row : Rows.FnExactTipOfSaid :=
  OpenClaim.holds_of_wide 3 Tryd.f3 rfl rfl rfl rfl rfl rfl rfl ⟨rfl, rfl, rfl, rfl, rfl⟩ rfl rfl rfl rfl rfl (by kernel_rfl) Tryd.func3 (by kernel_rfl)
    (of_decide_eq_true (by kernel_rfl)) (by unfold Func.isWrapper; rw [if_neg (of_decide_eq_false (by kernel_rfl))]; exact ⟨rfl, rfl⟩)
    (fun os started H enc _ => fnExactTipOf_lifted os started H enc)

theorem fnExactTipOf_card : Rows.FnExactTipOfCardSaid :=
  Claim7.holds_tied_plain_at .later [] [.sentinel, .sentinel, .sentinel, .sentinel, .sentinel, .sentinel, .sentinel] true (true, "9e9c3480a0ae119c33c92adc083ab7d9ee742b05bcb1b7fb9d102cb29e6f1cf3") true
    fnExactTipOf_row (fun _ h => by cases h) (by kernel_rfl) (fun _ h => by cases h) fnExactTipOf_row_tie rfl ⟨rfl, rfl⟩ (by kernel_rfl) rfl
    (fun f fn hf hfn => by
      obtain rfl : f = 3 := Option.some.inj ((show Tryd.prog.funcNamed "loop.example/g01353/laws.FnExactTipOf" = some 3 by kernel_rfl).symm.trans hf) |>.symm
      obtain rfl : fn = Tryd.f3 := (Option.some.inj (Tryd.func3.symm.trans hfn)).symm
      exact ⟨by kernel_rfl, fun j t ht => by
        have hm : t ∈ Tryd.f3.params.toList := Array.mem_toList_iff.2 (Array.mem_of_getElem? ht)
        have hall : (Tryd.f3.params.toList.all fun u => !Tryd.prog.wantsStandIn u) = true := by kernel_rfl
        exact (show Tryd.prog.wantsStandIn t = false by simpa using List.all_eq_true.1 hall t hm)⟩)
    (by kernel_rfl)
#print axioms fnExactTipOf_card
end Go.Proofs.YtjiihdljchaeiafDoor
