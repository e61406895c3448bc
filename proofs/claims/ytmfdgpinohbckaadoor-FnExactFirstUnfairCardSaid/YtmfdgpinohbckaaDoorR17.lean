/-
  FnExactFirstUnfair: for all arguments the law returns true, and they read as before. No condition but that the sentinel errors hold what the program's text lays (tied).
-/
import Derived.Test.YtmfdgpinohbckaaDoorR17g
namespace Go.Proofs.YtmfdgpinohbckaaDoor
open Go.ChangeShapes Go.WideShapes Go.ChangeAt Go.RowKit Go.Deep

set_option maxRecDepth 100000 in
theorem fnExactFirstUnfair_lifted (os : Os) (started : os.Started) (H : Type) (enc : TypeId × Value → H) :
    ReturnsInHanded {} Tryd.checked os 7 .any (fun w args => (Rows.fnExactFirstUnfairSpec.pre enc Tryd.prog Tryd.f7 Rows.fnExactFirstUnfairRow.domain false w args ∧ laidMetH Tryd.prog (lay sl7) w) ∧ sizedMet enc Tryd.prog Tryd.f7 (OpenSpec.ofChange Rows.fnExactFirstUnfairSpec) false w args)
      (Rows.fnExactFirstUnfairSpec.post enc Tryd.prog Tryd.f7 false true false false) := by
  refine law_liftL (C := Tryd.checked) 3 7 Tryd.own started (by kernel_rfl) Tryd.func7
    (ChangeSpec.witness_shaped (enc := enc) (C := Tryd.checked) (os := os) (X := fun w _ => laidMetH Tryd.prog (lay sl7) w) false (World.doorLaid Tryd.prog 142 os) #[.slice none 0 0, .slice none 0 0, .int .i64 0] 8 rfl (World.shaped_of_RefB (by kernel_rfl) (by kernel_rfl)) (by kernel_rfl) (by kernel_rfl) (by kernel_rfl)
      (laidMetH_of_parts3 (fuel := 8) (laidMet_of_run' 8 (by kernel_rfl) (by kernel_rfl)) (by kernel_rfl) (by kernel_rfl)))
    Tryd.laidOut (by kernel_rfl) rfl (by kernel_rfl) Tryd.underlying4 (by kernel_rfl) (by kernel_rfl)
    (fun ds gs h h' => by match ds, gs, h, h' with | [d1, d2, d3], [g1, g2, g3, g4, g5, g6, g7], _, _ => rfl) ?_
  intro W base args ds p hL hval hA
  rw [Tryd.params7] at hA hval
  obtain ⟨v0, v1, v2, d0, d1, d2, r0, r1, r2, rfl, rfl, rfl, h0, h1, h2⟩ := trodAll_three hA
  obtain ⟨A0, n0, c0, rfl⟩ := okWide_slice Tryd.underlying59 (hval 0 59 v0 rfl rfl)
  obtain ⟨A0, c0, xs0, he0, _, hcm0, hwf0, hR0⟩ := open_rows wcells wfW Tryd.underlying59 Tryd.flatTL Tryd.cellsTL (by decide) wcells_length wcells_of rfl h0
  cases he0
  unfold maxLen at hcm0
  obtain ⟨A1, n1, c1, rfl⟩ := okWide_slice Tryd.underlying59 (hval 1 59 v1 rfl rfl)
  obtain ⟨A1, c1, xs1, he1, _, hcm1, hwf1, hR1⟩ := open_rows wcells wfW Tryd.underlying59 Tryd.flatTL Tryd.cellsTL (by decide) wcells_length wcells_of rfl h1
  cases he1
  unfold maxLen at hcm1
  obtain ⟨s, rfl, rfl, rfl, wn2⟩ := open_int Tryd.underlying2 (hval 2 2 v2 rfl rfl) h2
  obtain ⟨ad, hE⟩ := ew7_of hL
  exact uf4Law_any xs0 xs1 A0 c0 A1 c1 s ad W (by omega) hR0 hwf0 (by omega) hR1 hwf1 (bounds_i64 wn2) hE

theorem fnExactFirstUnfair_row : Rows.FnExactFirstUnfairSaid :=
  OpenClaim.holds_of_wide 7 Tryd.f7 rfl rfl rfl rfl rfl rfl rfl ⟨rfl, rfl, rfl, rfl, rfl⟩ rfl rfl rfl rfl rfl (by kernel_rfl) Tryd.func7 (by kernel_rfl)
    (of_decide_eq_true (by kernel_rfl)) (by unfold Func.isWrapper; rw [if_neg (of_decide_eq_false (by kernel_rfl))]; exact ⟨rfl, rfl⟩)
    (fun os started H enc _ => fnExactFirstUnfair_lifted os started H enc)

theorem fnExactFirstUnfair_card : Rows.FnExactFirstUnfairCardSaid :=
  Claim7.holds_tied_plain_at .later [] [.sentinel, .sentinel, .sentinel, .sentinel, .sentinel, .sentinel, .sentinel] true (true, "393462431935664eb40558831cb663fde07b1b1ddf000bdbde3afd590ac5434d") true
    fnExactFirstUnfair_row (fun _ h => by cases h) (by kernel_rfl) (fun _ h => by cases h) fnExactFirstUnfair_row_tie rfl ⟨rfl, rfl⟩ (by kernel_rfl) rfl
    (fun f fn hf hfn => by
      obtain rfl : f = 7 := Option.some.inj ((show Tryd.prog.funcNamed "loop.example/g01353/laws.FnExactFirstUnfair" = some 7 by kernel_rfl).symm.trans hf) |>.symm
      obtain rfl : fn = Tryd.f7 := (Option.some.inj (Tryd.func7.symm.trans hfn)).symm
      exact ⟨by kernel_rfl, fun j t ht => by
        have hm : t ∈ Tryd.f7.params.toList := Array.mem_toList_iff.2 (Array.mem_of_getElem? ht)
        have hall : (Tryd.f7.params.toList.all fun u => !Tryd.prog.wantsStandIn u) = true := by kernel_rfl
        exact (show Tryd.prog.wantsStandIn t = false by simpa using List.all_eq_true.1 hall t hm)⟩)
    (by kernel_rfl)
#print axioms fnExactFirstUnfair_card
end Go.Proofs.YtmfdgpinohbckaaDoor
