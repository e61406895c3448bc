/-
  FnExactBreakageOf: for all arguments the law returns true, and they read as before. No condition but that the sentinel errors hold what the program's text lays (tied).
-/
import Derived.Test.YtjgafdfffmfhhabDoorH9g
namespace Go.Proofs.YtjgafdfffmfhhabDoor
open Go.ChangeShapes Go.WideShapes Go.ChangeAt Go.RowKit Go.Deep

set_option maxRecDepth 100000 in
theorem fnExactBreakageOf_lifted (os : Os) (started : os.Started) (H : Type) (enc : TypeId × Value → H) :
    ReturnsInHanded {} Tryd.checked os 5 .any (fun w args => (Rows.fnExactBreakageOfSpec.pre enc Tryd.prog Tryd.f5 Rows.fnExactBreakageOfRow.domain false w args ∧ laidMetH Tryd.prog (lay sl6) w) ∧ sizedMet enc Tryd.prog Tryd.f5 (OpenSpec.ofChange Rows.fnExactBreakageOfSpec) false w args)
      (Rows.fnExactBreakageOfSpec.post enc Tryd.prog Tryd.f5 false true false false) := by
  refine law_liftL (C := Tryd.checked) 1 6 Tryd.own started (by kernel_rfl) Tryd.func5
    (ChangeSpec.witness_shaped (enc := enc) (C := Tryd.checked) (os := os) (X := fun w _ => laidMetH Tryd.prog (lay sl6) w) false (World.doorLaid Tryd.prog 142 os) #[.slice none 0 0] 8 rfl (World.shaped_of_RefB (by kernel_rfl) (by kernel_rfl)) (by kernel_rfl) (by kernel_rfl) (by kernel_rfl)
      (laidMetH_of_parts3 (fuel := 8) (laidMet_of_run' 8 (by kernel_rfl) (by kernel_rfl)) (by kernel_rfl) (by kernel_rfl)))
    Tryd.laidOut (by kernel_rfl) rfl (by kernel_rfl) Tryd.underlying4 (by kernel_rfl) (by kernel_rfl)
    (fun ds gs h h' => by match ds, gs, h, h' with | [d1], [g1, g2, g3, g4, g5, g6], _, _ => rfl) ?_
  intro W base args ds p hL hval hA
  rw [Tryd.params5] at hA hval
  obtain ⟨v0, d0, rfl, rfl, h0⟩ := trodAll_one hA
  obtain ⟨A0, n0, c0, rfl⟩ := okWide_slice Tryd.underlying46 (hval 0 46 v0 rfl rfl)
  obtain ⟨A0, c0, xs0, he0, _, hcm0, hwf0, hR0⟩ := open_rows ecells wfE Tryd.underlying46 Tryd.flatEL Tryd.cellsEL (by decide) ecells_length ecells_of rfl h0
  cases he0
  unfold maxLen at hcm0
  obtain ⟨ad, hE⟩ := ew5_of hL
  exact bo6Law_any xs0 A0 c0 ad W (by omega) hR0 hwf0 hE

theorem fnExactBreakageOf_row : Rows.FnExactBreakageOfSaid :=
  OpenClaim.holds_of_wide 5 Tryd.f5 rfl rfl rfl rfl rfl rfl rfl ⟨rfl, rfl, rfl, rfl, rfl⟩ rfl rfl rfl rfl rfl (by kernel_rfl) Tryd.func5 (by kernel_rfl)
    (of_decide_eq_true (by kernel_rfl)) (by unfold Func.isWrapper; rw [if_neg (of_decide_eq_false (by kernel_rfl))]; exact ⟨rfl, rfl⟩)
    (fun os started H enc _ => fnExactBreakageOf_lifted os started H enc)

theorem fnExactBreakageOf_card : Rows.FnExactBreakageOfCardSaid :=
  Claim7.holds_tied_plain_at .later [] [.sentinel, .sentinel, .sentinel, .sentinel, .sentinel, .sentinel] true (true, "7c7dc97e3c00c23dff47975f9a67ba63eb57b79a8120d301bf0fe0b8f9fcb832") true
    fnExactBreakageOf_row (fun _ h => by cases h) (by kernel_rfl) (fun _ h => by cases h) fnExactBreakageOf_row_tie rfl ⟨rfl, rfl⟩ (by kernel_rfl) rfl
    (fun f fn hf hfn => by
      obtain rfl : f = 5 := Option.some.inj ((show Tryd.prog.funcNamed "loop.example/g01353/laws.FnExactBreakageOf" = some 5 by kernel_rfl).symm.trans hf) |>.symm
      obtain rfl : fn = Tryd.f5 := (Option.some.inj (Tryd.func5.symm.trans hfn)).symm
      exact ⟨by kernel_rfl, fun j t ht => by
        have hm : t ∈ Tryd.f5.params.toList := Array.mem_toList_iff.2 (Array.mem_of_getElem? ht)
        have hall : (Tryd.f5.params.toList.all fun u => !Tryd.prog.wantsStandIn u) = true := by kernel_rfl
        exact (show Tryd.prog.wantsStandIn t = false by simpa using List.all_eq_true.1 hall t hm)⟩)
    (by kernel_rfl)
#print axioms fnExactBreakageOf_card
end Go.Proofs.YtjgafdfffmfhhabDoor
