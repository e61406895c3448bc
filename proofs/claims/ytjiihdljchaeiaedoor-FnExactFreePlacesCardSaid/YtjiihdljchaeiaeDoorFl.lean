/-
  FnExactFreePlaces: for every crate the law returns true, and its argument reads as before. No condition but that the sentinel errors hold what the program's text lays (tied).
-/
import Derived.Test.YtjiihdljchaeiaeDoorCards
import Derived.Test.YtjiihdljchaeiaeDoorTie
import Derived.Test.YtjiihdljchaeiaeDoorG
import Derived.Test.YtjiihdljchaeiaeDoorEi
import Derived.Test.YtjiihdljchaeiaeDoorFr
import Derived.SevenTiedAt
namespace Go.Proofs.YtjiihdljchaeiaeDoor
open Go.ChangeShapes Go.WideShapes Go.ChangeAt Go.RowKit Go.Deep

theorem Tryd.sizeLc : (Tryd.prog.info? 25).map (·.size) = some 24 := by kernel_rfl
set_option maxRecDepth 100000 in
set_option maxHeartbeats 2000000 in
theorem frLaw_any (bs : List Bot) (hwf : WfC bs) (ad : Nat → Addr) (w : World) (hE : EW 7 w ad) : Calls Tryd.prog 3 #[.agg (ccells bs).toArray] w (Good w) := by
  have HW := Lib.hid hwf
  have HE := Lib.hid hE
  clear hwf hE
  have HL0 := Lib.hid (CBlk.new w 25 bs)
  have HB0 : Hid (Below w.heap.size w (w.alloc (.cells (ccells bs).toArray 25))) := (Below.refl _ w).alloc (Nat.le_refl _) _
  have hlen := frL_len bs
  go_enter Tryd.func3, Tryd.ntmps3
  go_wp2_with (refine wpList_load_row rfl 25 (.tmp 1) rfl w.heap.size rfl 25 _ (0, 0) _ HL0.out Tryd.underlying25 rfl (size_of_crate Tryd.sizeLc _ HW.out.1) ?_)
  refine (toCrate_any bs HW.out.1 _).mono ?_
  rintro e w1 ⟨rfl, hb⟩
  have HB1 : Hid (Below w.heap.size w w1) := HB0.out.trans (hb.mono HB0.out.size)
  have HL1 : Hid (CBlk w1 w.heap.size 25 bs) := HL0.out.below hb HL0.out.lt
  clear hb
  go_wp2_with fail
  refine (specFree_any bs HW.out _).mono ?_
  rintro e w2 ⟨v0, rfl, hr, hb⟩
  have HV2 : Hid (w2.ownsRow w.heap.size 2 1 v0 (frL bs).length (nats (frL bs))) := own_base hr HB1.out.size
  clear hr
  have HB2 : Hid (Below w.heap.size w w2) := HB1.out.trans (hb.mono HB1.out.size)
  have HL2 : Hid (CBlk w2 w.heap.size 25 bs) := HL1.out.below hb HL1.out.lt
  clear hb
  obtain ⟨cd, hcd⟩ : ∃ cd, frC bs = cd := ⟨_, rfl⟩
  have HCD := Lib.hid hcd
  clear hcd
  rw [HCD.out]
  go_wp2_with (refine wpList_load_row rfl 25 (.tmp 1) rfl w.heap.size rfl 25 _ (0, 0) _ HL2.out Tryd.underlying25 rfl (size_of_crate Tryd.sizeLc _ HW.out.1) ?_)
  refine (toCrate_any bs HW.out.1 _).mono ?_
  rintro e w3 ⟨rfl, hb⟩
  have HB3 : Hid (Below w.heap.size w w3) := HB2.out.trans (hb.mono HB2.out.size)
  have HL3 : Hid (CBlk w3 w.heap.size 25 bs) := HL2.out.below hb HL2.out.lt
  have HV3 : Hid (w3.ownsRow w.heap.size 2 1 v0 (frL bs).length (nats (frL bs))) := own_keep HV2.out hb
  clear hb
  go_wp2_with fail
  refine (implFree_any bs HW.out ad _ (HE.out.below HB3.out (Nat.le_refl _))).mono ?_
  rintro e w4 ⟨g0, rfl, hr, hb⟩
  have HG4 := Lib.hid hr
  clear hr
  have HB4 : Hid (Below w.heap.size w w4) := HB3.out.trans (hb.mono HB3.out.size)
  have HL4 : Hid (CBlk w4 w.heap.size 25 bs) := HL3.out.below hb HL3.out.lt
  have HV4 : Hid (w4.ownsRow w.heap.size 2 1 v0 (frL bs).length (nats (frL bs))) := own_keep HV3.out hb
  have H34 : Hid (Below w3.heap.size w3 w4) := hb
  clear hb
  rw [HCD.out]
  go_wp2_with fail
  refine (eqI_same (frL bs) _ _ _ _ _ (by omega) HG4.out HV4.out).mono ?_
  rintro e w5 ⟨rfl, hb⟩
  have HG5 := Lib.hid (own_keep HG4.out hb)
  have hb45 : Hid (Below w4.heap.size w4 w5) := hb
  have HB5 : Hid (Below w.heap.size w w5) := HB4.out.trans (hb.mono HB4.out.size)
  have HL5 : Hid (CBlk w5 w.heap.size 25 bs) := HL4.out.below hb HL4.out.lt
  have HV5 : Hid (w5.ownsRow w.heap.size 2 1 v0 (frL bs).length (nats (frL bs))) := own_keep HV4.out hb
  clear hb
  obtain ⟨A, c, rfl, -⟩ := own_read (nats_len (frL bs)) HG5.out
  have hn0 : (0 : Int) ≤ (frL bs).length := Int.natCast_nonneg _
  have H35 : Hid (Below w3.heap.size w3 w5) := H34.out.trans (hb45.out.mono H34.out.size)
  go_wp2_with fail
  refine (markI_any (frL bs).length w3.heap.size A c _ _ (by omega) HG5.out H35.out.size).mono ?_
  rintro e w6 ⟨rfl, hM, hb⟩
  have HM6 := Lib.hid hM
  have HB6 : Hid (Below w.heap.size w w6) := HB5.out.trans (hb.mono HB3.out.size)
  have HL6 : Hid (CBlk w6 w.heap.size 25 bs) := HL5.out.below hb HL3.out.lt
  have HV6 : Hid (w6.ownsRow w.heap.size 2 1 v0 (frL bs).length (nats (frL bs))) := own_keep HV3.out (H35.out.trans hb)
  clear hb hM
  have hn1 : ¬ (1 + ((frL bs).length : Int) < 0) := by omega
  go_wp2_with fail
  refine (heldI_any (frL bs).length A c _ (by omega) HM6.out).mono ?_
  rintro e w6' ⟨rfl, rfl⟩
  go_wp2_with (refine wpList_load_row rfl 25 (.tmp 1) rfl w.heap.size rfl 25 _ (0, 0) _ HL6.out Tryd.underlying25 rfl (size_of_crate Tryd.sizeLc _ HW.out.1) ?_)
  refine (toCrate_any bs HW.out.1 _).mono ?_
  rintro e w7 ⟨rfl, hb⟩
  have HB7 : Hid (Below w.heap.size w w7) := HB6.out.trans (hb.mono HB6.out.size)
  have HL7 : Hid (CBlk w7 w.heap.size 25 bs) := HL6.out.below hb HL6.out.lt
  have HV7 : Hid (w7.ownsRow w.heap.size 2 1 v0 (frL bs).length (nats (frL bs))) := own_keep HV6.out hb
  have HM7 := Lib.hid (HM6.out.below hb)
  clear hb
  go_wp2_with fail
  refine (implFree_any bs HW.out ad _ (HE.out.below HB7.out (Nat.le_refl _))).mono ?_
  rintro e w8 ⟨h0, rfl, hr, hb⟩
  have HG8 := Lib.hid hr
  clear hr
  have HB8 : Hid (Below w.heap.size w w8) := HB7.out.trans (hb.mono HB7.out.size)
  have HL8 : Hid (CBlk w8 w.heap.size 25 bs) := HL7.out.below hb HL7.out.lt
  have HV8 : Hid (w8.ownsRow w.heap.size 2 1 v0 (frL bs).length (nats (frL bs))) := own_keep HV7.out hb
  have HM8 := Lib.hid (HM7.out.below hb)
  clear hb
  rw [HCD.out]
  go_wp2_with fail
  refine (eqI_same (frL bs) _ _ _ _ _ (by omega) HG8.out HV8.out).mono ?_
  rintro e w9 ⟨rfl, hb⟩
  have HB9 : Hid (Below w.heap.size w w9) := HB8.out.trans (hb.mono HB8.out.size)
  have HL9 : Hid (CBlk w9 w.heap.size 25 bs) := HL8.out.below hb HL8.out.lt
  have HV9 : Hid (w9.ownsRow w.heap.size 2 1 v0 (frL bs).length (nats (frL bs))) := own_keep HV8.out hb
  have HM9 := Lib.hid (HM8.out.below hb)
  clear hb
  go_wp2_with fail
  refine (heldI_any (frL bs).length A c _ (by omega) HM9.out).mono ?_
  rintro e w9' ⟨rfl, rfl⟩
  go_wp2
  go_ret
  exact ⟨rfl, HB9.out⟩

set_option maxRecDepth 100000 in
theorem fnExactFreePlaces_lifted (os : Os) (started : os.Started) (H : Type) (enc : TypeId × Value → H) :
    ReturnsInHanded {} Tryd.checked os 3 .any (fun w args => (Rows.fnExactFreePlacesSpec.pre enc Tryd.prog Tryd.f3 Rows.fnExactFreePlacesRow.domain false w args ∧ laidMetH Tryd.prog (lay sl7) w) ∧ sizedMet enc Tryd.prog Tryd.f3 (OpenSpec.ofChange Rows.fnExactFreePlacesSpec) false w args)
      (Rows.fnExactFreePlacesSpec.post enc Tryd.prog Tryd.f3 false true false false) := by
  refine law_liftL (C := Tryd.checked) 1 7 Tryd.own started (by kernel_rfl) Tryd.func3
    (ChangeSpec.witness_shaped (enc := enc) (C := Tryd.checked) (os := os) (X := fun w _ => laidMetH Tryd.prog (lay sl7) w) false (World.doorLaid Tryd.prog 142 os) #[.agg #[.int .u8 0, .int .i16 0, .int .u8 0, .int .i16 0, .int .u8 0, .int .i16 0, .int .u8 0, .int .i16 0, .int .u8 0, .int .i16 0, .int .u8 0, .int .i16 0, .int .u8 0, .int .i16 0, .int .u8 0, .int .i16 0, .int .u8 0, .int .i16 0, .int .u8 0, .int .i16 0, .int .u8 0, .int .i16 0, .int .u8 0, .int .i16 0]] 8 rfl (World.shaped_of_RefB (by kernel_rfl) (by kernel_rfl)) (by kernel_rfl) (by kernel_rfl) (by kernel_rfl)
      (laidMetH_of_parts3 (fuel := 8) (laidMet_of_run' 8 (by kernel_rfl) (by kernel_rfl)) (by kernel_rfl) (by kernel_rfl)))
    Tryd.laidOut (by kernel_rfl) rfl (by kernel_rfl) Tryd.underlying4 (by kernel_rfl) (by kernel_rfl)
    (fun ds gs h h' => by match ds, gs, h, h' with | [d1], [g1, g2, g3, g4, g5, g6, g7], _, _ => rfl) ?_
  intro W base args ds p hL hval hA
  rw [Tryd.params3] at hA hval
  obtain ⟨v0, d0, rfl, rfl, h0⟩ := trodAll_one hA
  obtain ⟨bs, hl, rfl, hwf⟩ := open_crate (n := 12) Tryd.underlying25 (by kernel_rfl) Tryd.underlying24 Tryd.underlying5 Tryd.underlying22 (by kernel_rfl) (by kernel_rfl) (hval 0 25 v0 rfl rfl) h0
  obtain ⟨ad, hE⟩ := ew7_of hL
  exact frLaw_any bs ⟨hl, hwf⟩ ad W hE

theorem fnExactFreePlaces_row : Rows.FnExactFreePlacesSaid :=
  OpenClaim.holds_of_wide 3 Tryd.f3 rfl rfl rfl rfl rfl rfl rfl ⟨rfl, rfl, rfl, rfl, rfl⟩ rfl rfl rfl rfl rfl (by kernel_rfl) Tryd.func3 (by kernel_rfl)
    (of_decide_eq_true (by kernel_rfl)) (by unfold Func.isWrapper; rw [if_neg (of_decide_eq_false (by kernel_rfl))]; exact ⟨rfl, rfl⟩)
    (fun os started H enc _ => fnExactFreePlaces_lifted os started H enc)

theorem fnExactFreePlaces_card : Rows.FnExactFreePlacesCardSaid :=
  Claim7.holds_tied_plain_at .later [] [.sentinel, .sentinel, .sentinel, .sentinel, .sentinel, .sentinel, .sentinel] true (true, "aa23a033a8e744bf7b99e382bf9d4012d49c67373f322863939fa64812dc9c06") true
    fnExactFreePlaces_row (fun _ h => by cases h) (by kernel_rfl) (fun _ h => by cases h) fnExactFreePlaces_row_tie rfl ⟨rfl, rfl⟩ (by kernel_rfl) rfl
    (fun f fn hf hfn => by
      obtain rfl : f = 3 := Option.some.inj ((show Tryd.prog.funcNamed "loop.example/g01353/laws.FnExactFreePlaces" = some 3 by kernel_rfl).symm.trans hf) |>.symm
      obtain rfl : fn = Tryd.f3 := (Option.some.inj (Tryd.func3.symm.trans hfn)).symm
      exact ⟨by kernel_rfl, fun j t ht => by
        have hm : t ∈ Tryd.f3.params.toList := Array.mem_toList_iff.2 (Array.mem_of_getElem? ht)
        have hall : (Tryd.f3.params.toList.all fun u => !Tryd.prog.wantsStandIn u) = true := by kernel_rfl
        exact (show Tryd.prog.wantsStandIn t = false by simpa using List.all_eq_true.1 hall t hm)⟩)
    (by kernel_rfl)
#print axioms fnExactFreePlaces_card
end Go.Proofs.YtjiihdljchaeiaeDoor
