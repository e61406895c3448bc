/-
  FnExactOutAt: for all arguments the law returns true, and they read as before. No condition but that the sentinel errors hold what the program's text lays (tied).
-/
import Derived.Test.YtjgafdfffmfhhabDoorH6g
namespace Go.Proofs.YtjgafdfffmfhhabDoor
open Go.ChangeShapes Go.WideShapes Go.ChangeAt Go.RowKit Go.Deep

set_option maxRecDepth 100000 in
theorem fnExactOutAt_lifted (os : Os) (started : os.Started) (H : Type) (enc : TypeId × Value → H) :
    ReturnsInHanded {} Tryd.checked os 3 .any (fun w args => (Rows.fnExactOutAtSpec.pre enc Tryd.prog Tryd.f3 Rows.fnExactOutAtRow.domain false w args ∧ laidMetH Tryd.prog (lay sl7) w) ∧ sizedMet enc Tryd.prog Tryd.f3 (OpenSpec.ofChange Rows.fnExactOutAtSpec) false w args)
      (Rows.fnExactOutAtSpec.post enc Tryd.prog Tryd.f3 false true false false) := by
  refine law_liftL (C := Tryd.checked) 2 7 Tryd.own started (by kernel_rfl) Tryd.func3
    (ChangeSpec.witness_shaped (enc := enc) (C := Tryd.checked) (os := os) (X := fun w _ => laidMetH Tryd.prog (lay sl7) w) false (World.doorLaid Tryd.prog 142 os) #[.agg #[.int .i16 0, .int .i16 0], .agg #[.int .i64 0, .int .i64 0, .int .i64 0, .int .i64 0, .int .i64 0]] 8 rfl (World.shaped_of_RefB (by kernel_rfl) (by kernel_rfl)) (by kernel_rfl) (by kernel_rfl) (by kernel_rfl)
      (laidMetH_of_parts3 (fuel := 8) (laidMet_of_run' 8 (by kernel_rfl) (by kernel_rfl)) (by kernel_rfl) (by kernel_rfl)))
    Tryd.laidOut (by kernel_rfl) rfl (by kernel_rfl) Tryd.underlying4 (by kernel_rfl) (by kernel_rfl)
    (fun ds gs h h' => by match ds, gs, h, h' with | [d1, d2], [g1, g2, g3, g4, g5, g6, g7], _, _ => rfl) ?_
  intro W base args ds p hL hval hA
  rw [Tryd.params3] at hA hval
  obtain ⟨v0, v1, d0, d1, r0, r1, rfl, rfl, rfl, h0, h1⟩ := trodAll_two hA
  obtain ⟨cs0, hcs0, -⟩ := okWide_struct Tryd.underlying24 (hval 0 24 v0 rfl rfl)
  obtain ⟨cs, rfl, hF⟩ := open_flat (r := .any) (b0 := 0) Tryd.flatPL ⟨_, hcs0⟩ h0
  obtain ⟨p, hwfp, rfl⟩ := pcells_of cs hF
  obtain ⟨cs0, hcs0, -⟩ := okWide_struct Tryd.underlying26 (hval 1 26 v1 rfl rfl)
  obtain ⟨cs, rfl, hF⟩ := open_flat (r := .any) (b0 := 0) Tryd.flatHL ⟨_, hcs0⟩ h1
  obtain ⟨h, hwfh, rfl⟩ := hcells_of cs hF
  obtain ⟨ad, hE⟩ := ew7_of hL
  exact oaLaw_any p hwfp h hwfh ad W  hE

theorem fnExactOutAt_row : Rows.FnExactOutAtSaid :=
  OpenClaim.holds_of_wide 3 Tryd.f3 rfl rfl rfl rfl rfl rfl rfl ⟨rfl, rfl, rfl, rfl, rfl⟩ rfl rfl rfl rfl rfl (by kernel_rfl) Tryd.func3 (by kernel_rfl)
    (of_decide_eq_true (by kernel_rfl)) (by unfold Func.isWrapper; rw [if_neg (of_decide_eq_false (by kernel_rfl))]; exact ⟨rfl, rfl⟩)
    (fun os started H enc _ => fnExactOutAt_lifted os started H enc)

theorem fnExactOutAt_card : Rows.FnExactOutAtCardSaid :=
  Claim7.holds_tied_plain_at .later [] [.sentinel, .sentinel, .sentinel, .sentinel, .sentinel, .sentinel, .sentinel] true (true, "7c7dc97e3c00c23dff47975f9a67ba63eb57b79a8120d301bf0fe0b8f9fcb832") true
    fnExactOutAt_row (fun _ h => by cases h) (by kernel_rfl) (fun _ h => by cases h) fnExactOutAt_row_tie rfl ⟨rfl, rfl⟩ (by kernel_rfl) rfl
    (fun f fn hf hfn => by
      obtain rfl : f = 3 := Option.some.inj ((show Tryd.prog.funcNamed "loop.example/g01353/laws.FnExactOutAt" = some 3 by kernel_rfl).symm.trans hf) |>.symm
      obtain rfl : fn = Tryd.f3 := (Option.some.inj (Tryd.func3.symm.trans hfn)).symm
      exact ⟨by kernel_rfl, fun j t ht => by
        have hm : t ∈ Tryd.f3.params.toList := Array.mem_toList_iff.2 (Array.mem_of_getElem? ht)
        have hall : (Tryd.f3.params.toList.all fun u => !Tryd.prog.wantsStandIn u) = true := by kernel_rfl
        exact (show Tryd.prog.wantsStandIn t = false by simpa using List.all_eq_true.1 hall t hm)⟩)
    (by kernel_rfl)
#print axioms fnExactOutAt_card
end Go.Proofs.YtjgafdfffmfhhabDoor
