/-
  FnExactBlindNumbers: for all arguments the law returns true, and they read as before. No condition but that the sentinel errors hold what the program's text lays (tied).
-/
import Derived.Test.YtajnkkiabjiplaaDoorT3g
namespace Go.Proofs.YtajnkkiabjiplaaDoor
open Go.ChangeShapes Go.WideShapes Go.ChangeAt Go.RowKit Go.Deep

set_option maxRecDepth 100000 in
theorem fnExactBlindNumbers_lifted (os : Os) (started : os.Started) (H : Type) (enc : TypeId × Value → H) :
    ReturnsInHanded {} Tryd.checked os 4 .any (fun w args => (Rows.fnExactBlindNumbersSpec.pre enc Tryd.prog Tryd.f4 Rows.fnExactBlindNumbersRow.domain false w args ∧ laidMetH Tryd.prog (lay sl6) w) ∧ sizedMet enc Tryd.prog Tryd.f4 (OpenSpec.ofChange Rows.fnExactBlindNumbersSpec) false w args)
      (Rows.fnExactBlindNumbersSpec.post enc Tryd.prog Tryd.f4 false true false false) := by
  refine law_liftL (C := Tryd.checked) 3 6 Tryd.own started (by kernel_rfl) Tryd.func4
    (ChangeSpec.witness_shaped (enc := enc) (C := Tryd.checked) (os := os) (X := fun w _ => laidMetH Tryd.prog (lay sl6) w) false (World.doorLaid Tryd.prog 142 os) #[.int .i64 0, .int .i64 0, .int .i64 0] 8 rfl (World.shaped_of_RefB (by kernel_rfl) (by kernel_rfl)) (by kernel_rfl) (by kernel_rfl) (by kernel_rfl)
      (laidMetH_of_parts3 (fuel := 8) (laidMet_of_run' 8 (by kernel_rfl) (by kernel_rfl)) (by kernel_rfl) (by kernel_rfl)))
    Tryd.laidOut (by kernel_rfl) rfl (by kernel_rfl) Tryd.underlying4 (by kernel_rfl) (by kernel_rfl)
    (fun ds gs h h' => by match ds, gs, h, h' with | [d1, d2, d3], [g1, g2, g3, g4, g5, g6], _, _ => rfl) ?_
  intro W base args ds p hL hval hA
  rw [Tryd.params4] at hA hval
  obtain ⟨v0, v1, v2, d0, d1, d2, r0, r1, r2, rfl, rfl, rfl, h0, h1, h2⟩ := trodAll_three hA
  obtain ⟨n, rfl, rfl, rfl, wn0⟩ := open_int Tryd.underlying2 (hval 0 2 v0 rfl rfl) h0
  obtain ⟨s, rfl, rfl, rfl, wn1⟩ := open_int Tryd.underlying2 (hval 1 2 v1 rfl rfl) h1
  obtain ⟨f, rfl, rfl, rfl, wn2⟩ := open_int Tryd.underlying2 (hval 2 2 v2 rfl rfl) h2
  obtain ⟨ad, hE⟩ := ew5_of hL
  exact bn7Law_any n s f ad W (bounds_i64 wn0) (bounds_i64 wn1) (bounds_i64 wn2) hE

theorem fnExactBlindNumbers_row : Rows.FnExactBlindNumbersSaid :=
  OpenClaim.holds_of_wide 4 Tryd.f4 rfl rfl rfl rfl rfl rfl rfl ⟨rfl, rfl, rfl, rfl, rfl⟩ rfl rfl rfl rfl rfl (by kernel_rfl) Tryd.func4 (by kernel_rfl)
    (of_decide_eq_true (by kernel_rfl)) (by unfold Func.isWrapper; rw [if_neg (of_decide_eq_false (by kernel_rfl))]; exact ⟨rfl, rfl⟩)
    (fun os started H enc _ => fnExactBlindNumbers_lifted os started H enc)

theorem fnExactBlindNumbers_card : Rows.FnExactBlindNumbersCardSaid :=
  Claim7.holds_tied_plain_at .later [] [.sentinel, .sentinel, .sentinel, .sentinel, .sentinel, .sentinel] true (true, "f7207dc85cbdcdfc99efd5e0748091d1e4350b0dd8e46c4ed34d0f9ea034fb00") true
    fnExactBlindNumbers_row (fun _ h => by cases h) (by kernel_rfl) (fun _ h => by cases h) fnExactBlindNumbers_row_tie rfl ⟨rfl, rfl⟩ (by kernel_rfl) rfl
    (fun f fn hf hfn => by
      obtain rfl : f = 4 := Option.some.inj ((show Tryd.prog.funcNamed "loop.example/g01353/laws.FnExactBlindNumbers" = some 4 by kernel_rfl).symm.trans hf) |>.symm
      obtain rfl : fn = Tryd.f4 := (Option.some.inj (Tryd.func4.symm.trans hfn)).symm
      exact ⟨by kernel_rfl, fun j t ht => by
        have hm : t ∈ Tryd.f4.params.toList := Array.mem_toList_iff.2 (Array.mem_of_getElem? ht)
        have hall : (Tryd.f4.params.toList.all fun u => !Tryd.prog.wantsStandIn u) = true := by kernel_rfl
        exact (show Tryd.prog.wantsStandIn t = false by simpa using List.all_eq_true.1 hall t hm)⟩)
    (by kernel_rfl)
#print axioms fnExactBlindNumbers_card
end Go.Proofs.YtajnkkiabjiplaaDoor
