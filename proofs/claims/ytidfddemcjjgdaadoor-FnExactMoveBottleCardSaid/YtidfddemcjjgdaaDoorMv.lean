/-
  FnExactMoveBottle: for every crate and every swap the law returns true, and its arguments read as before. No condition but that the sentinel errors hold what the program's text lays (tied).
-/
import Derived.Test.YtidfddemcjjgdaaDoorMvg
namespace Go.Proofs.YtidfddemcjjgdaaDoor
open Go.ChangeShapes Go.WideShapes Go.ChangeAt Go.RowKit Go.Deep

set_option maxRecDepth 100000 in
theorem fnExactMoveBottle_lifted (os : Os) (started : os.Started) (H : Type) (enc : TypeId × Value → H) :
    ReturnsInHanded {} Tryd.checked os 7 .any (fun w args => (Rows.fnExactMoveBottleSpec.pre enc Tryd.prog Tryd.f7 Rows.fnExactMoveBottleRow.domain false w args ∧ laidMetH Tryd.prog (lay sl7) w) ∧ sizedMet enc Tryd.prog Tryd.f7 (OpenSpec.ofChange Rows.fnExactMoveBottleSpec) false w args)
      (Rows.fnExactMoveBottleSpec.post enc Tryd.prog Tryd.f7 false true false false) := by
  refine law_liftL (C := Tryd.checked) 2 7 Tryd.own started (by kernel_rfl) Tryd.func7
    (ChangeSpec.witness_shaped (enc := enc) (C := Tryd.checked) (os := os) (X := fun w _ => laidMetH Tryd.prog (lay sl7) w) false (World.doorLaid Tryd.prog 157 os) #[.agg #[.int .u8 0, .int .i16 0, .int .u8 0, .int .i16 0, .int .u8 0, .int .i16 0, .int .u8 0, .int .i16 0, .int .u8 0, .int .i16 0, .int .u8 0, .int .i16 0, .int .u8 0, .int .i16 0, .int .u8 0, .int .i16 0, .int .u8 0, .int .i16 0, .int .u8 0, .int .i16 0, .int .u8 0, .int .i16 0, .int .u8 0, .int .i16 0], .agg #[.int .i8 0, .int .i8 0]] 8 rfl (World.shaped_of_RefB (by kernel_rfl) (by kernel_rfl)) (by kernel_rfl) (by kernel_rfl) (by kernel_rfl)
      (laidMetH_of_parts3 (fuel := 8) (laidMet_of_run' 8 (by kernel_rfl) (by kernel_rfl)) (by kernel_rfl) (by kernel_rfl)))
    Tryd.laidOut (by kernel_rfl) rfl (by kernel_rfl) Tryd.underlying4 (by kernel_rfl) (by kernel_rfl)
    (fun ds gs h h' => by match ds, gs, h, h' with | [d1, d2], [g1, g2, g3, g4, g5, g6, g7], _, _ => rfl) ?_
  intro W base args ds p hL hval hA
  rw [Tryd.params7] at hA hval
  obtain ⟨v0, v1, d0, d1, p0, p1, rfl, rfl, rfl, h0, h1⟩ := trodAll_two hA
  obtain ⟨bs, hl, rfl, hwf⟩ := open_crate (n := 12) Tryd.underlying25 (by kernel_rfl) Tryd.underlying24 Tryd.underlying5 Tryd.underlying22 (by kernel_rfl) (by kernel_rfl) (hval 0 25 v0 rfl rfl) h0
  obtain ⟨cs0, hcs0, -⟩ := okWide_struct Tryd.underlying28 (hval 1 28 v1 rfl rfl)
  obtain ⟨cs, rfl, hcs⟩ := open_flat (r := .any) (b0 := 0) Tryd.flatSL ⟨_, hcs0⟩ h1
  obtain ⟨⟨x, y⟩, hs, rfl⟩ := scells_of cs hcs
  obtain ⟨ad, hE⟩ := ew7_of hL
  exact mbLaw_gen bs ⟨hl, hwf⟩ x y hs (mbL bs (x, y)) (mbL_wf ⟨hl, hwf⟩ _) (mbC bs (x, y)) (fun w => specMoveBottle_any bs ⟨hl, hwf⟩ x y hs w) (fun ad w hE => implMoveBottle_any bs ⟨hl, hwf⟩ x y hs ad w hE) ad W hE

theorem fnExactMoveBottle_row : Rows.FnExactMoveBottleSaid :=
  OpenClaim.holds_of_wide 7 Tryd.f7 rfl rfl rfl rfl rfl rfl rfl ⟨rfl, rfl, rfl, rfl, rfl⟩ rfl rfl rfl rfl rfl (by kernel_rfl) Tryd.func7 (by kernel_rfl)
    (of_decide_eq_true (by kernel_rfl)) (by unfold Func.isWrapper; rw [if_neg (of_decide_eq_false (by kernel_rfl))]; exact ⟨rfl, rfl⟩)
    (fun os started H enc _ => fnExactMoveBottle_lifted os started H enc)

theorem fnExactMoveBottle_card : Rows.FnExactMoveBottleCardSaid :=
  Claim7.holds_tied_plain_at .later [] [.sentinel, .sentinel, .sentinel, .sentinel, .sentinel, .sentinel, .sentinel] true (true, "946e771f463bf2fff6f63ad38dac194d5146401c0a52cadcda846aeded862dbb") true
    fnExactMoveBottle_row (fun _ h => by cases h) (by kernel_rfl) (fun _ h => by cases h) fnExactMoveBottle_row_tie rfl ⟨rfl, rfl⟩ (by kernel_rfl) rfl
    (fun f fn hf hfn => by
      obtain rfl : f = 7 := Option.some.inj ((show Tryd.prog.funcNamed "loop.example/g01353/laws.FnExactMoveBottle" = some 7 by kernel_rfl).symm.trans hf) |>.symm
      obtain rfl : fn = Tryd.f7 := (Option.some.inj (Tryd.func7.symm.trans hfn)).symm
      exact ⟨by kernel_rfl, fun j t ht => by
        have hm : t ∈ Tryd.f7.params.toList := Array.mem_toList_iff.2 (Array.mem_of_getElem? ht)
        have hall : (Tryd.f7.params.toList.all fun u => !Tryd.prog.wantsStandIn u) = true := by kernel_rfl
        exact (show Tryd.prog.wantsStandIn t = false by simpa using List.all_eq_true.1 hall t hm)⟩)
    (by kernel_rfl)
#print axioms fnExactMoveBottle_card
end Go.Proofs.YtidfddemcjjgdaaDoor
