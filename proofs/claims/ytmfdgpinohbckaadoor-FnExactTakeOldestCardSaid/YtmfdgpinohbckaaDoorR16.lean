/-
  FnExactTakeOldest: for all arguments the law returns true, and they read as before. No condition but that the sentinel errors hold what the program's text lays (tied).
-/
import Derived.Test.YtmfdgpinohbckaaDoorR16g
namespace Go.Proofs.YtmfdgpinohbckaaDoor
open Go.ChangeShapes Go.WideShapes Go.ChangeAt Go.RowKit Go.Deep

set_option maxRecDepth 100000 in
theorem fnExactTakeOldest_lifted (os : Os) (started : os.Started) (H : Type) (enc : TypeId × Value → H) :
    ReturnsInHanded {} Tryd.checked os 4 .any (fun w args => (Rows.fnExactTakeOldestSpec.pre enc Tryd.prog Tryd.f4 Rows.fnExactTakeOldestRow.domain false w args ∧ laidMetH Tryd.prog (lay sl7) w) ∧ sizedMet enc Tryd.prog Tryd.f4 (OpenSpec.ofChange Rows.fnExactTakeOldestSpec) false w args)
      (Rows.fnExactTakeOldestSpec.post enc Tryd.prog Tryd.f4 false true false false) := by
  refine law_liftL (C := Tryd.checked) 3 7 Tryd.own started (by kernel_rfl) Tryd.func4
    (ChangeSpec.witness_shaped (enc := enc) (C := Tryd.checked) (os := os) (X := fun w _ => laidMetH Tryd.prog (lay sl7) w) false (World.doorLaid Tryd.prog 142 os) #[.slice none 0 0, .agg #[.int .u8 0, .int .i16 0], .int .i64 0] 8 rfl (World.shaped_of_RefB (by kernel_rfl) (by kernel_rfl)) (by kernel_rfl) (by kernel_rfl) (by kernel_rfl)
      (laidMetH_of_parts3 (fuel := 8) (laidMet_of_run' 8 (by kernel_rfl) (by kernel_rfl)) (by kernel_rfl) (by kernel_rfl)))
    Tryd.laidOut (by kernel_rfl) rfl (by kernel_rfl) Tryd.underlying4 (by kernel_rfl) (by kernel_rfl)
    (fun ds gs h h' => by match ds, gs, h, h' with | [d1, d2, d3], [g1, g2, g3, g4, g5, g6, g7], _, _ => rfl) ?_
  intro W base args ds p hL hval hA
  rw [Tryd.params4] at hA hval
  obtain ⟨v0, v1, v2, d0, d1, d2, p0, p1, p2, rfl, rfl, rfl, h0, h1, h2⟩ := trodAll_three hA
  obtain ⟨A, n, c, rfl⟩ := okWide_slice Tryd.underlying22 (hval 0 22 v0 rfl rfl)
  obtain ⟨A, c, xss, he, _, hcm, hall, hR⟩ := open_nested wcells wfW Tryd.underlying22 Tryd.underlying59 (by kernel_rfl) Tryd.flatTL Tryd.cellsTL (by decide) wcells_length wcells_of rfl h0
  cases he
  have hxl : ∀ xs ∈ xss, xs.length ≤ 9223372036854775807 := fun xs hxs => by have := (hall xs hxs).1; unfold maxLen at this; omega
  unfold maxLen at hcm
  obtain ⟨cs0, hcs0, -⟩ := okWide_struct Tryd.underlying38 (hval 1 38 v1 rfl rfl)
  obtain ⟨cs, rfl, hF⟩ := open_flat (r := .any) (b0 := 0) Tryd.flatBL ⟨_, hcs0⟩ h1
  obtain ⟨⟨k, y⟩, hwx, rfl⟩ := bcells_of cs hF
  obtain ⟨s, rfl, rfl, rfl, ws0⟩ := open_int Tryd.underlying2 (hval 2 2 v2 rfl rfl) h2
  obtain ⟨ad, hE⟩ := ew7_of hL
  exact toLaw_any xss A c k y s hwx ad W (by omega) hR hxl (fun xs h => (hall xs h).2) hE

theorem fnExactTakeOldest_row : Rows.FnExactTakeOldestSaid :=
  OpenClaim.holds_of_wide 4 Tryd.f4 rfl rfl rfl rfl rfl rfl rfl ⟨rfl, rfl, rfl, rfl, rfl⟩ rfl rfl rfl rfl rfl (by kernel_rfl) Tryd.func4 (by kernel_rfl)
    (of_decide_eq_true (by kernel_rfl)) (by unfold Func.isWrapper; rw [if_neg (of_decide_eq_false (by kernel_rfl))]; exact ⟨rfl, rfl⟩)
    (fun os started H enc _ => fnExactTakeOldest_lifted os started H enc)

theorem fnExactTakeOldest_card : Rows.FnExactTakeOldestCardSaid :=
  Claim7.holds_tied_plain_at .later [] [.sentinel, .sentinel, .sentinel, .sentinel, .sentinel, .sentinel, .sentinel] true (true, "393462431935664eb40558831cb663fde07b1b1ddf000bdbde3afd590ac5434d") true
    fnExactTakeOldest_row (fun _ h => by cases h) (by kernel_rfl) (fun _ h => by cases h) fnExactTakeOldest_row_tie rfl ⟨rfl, rfl⟩ (by kernel_rfl) rfl
    (fun f fn hf hfn => by
      obtain rfl : f = 4 := Option.some.inj ((show Tryd.prog.funcNamed "loop.example/g01353/laws.FnExactTakeOldest" = some 4 by kernel_rfl).symm.trans hf) |>.symm
      obtain rfl : fn = Tryd.f4 := (Option.some.inj (Tryd.func4.symm.trans hfn)).symm
      exact ⟨by kernel_rfl, fun j t ht => by
        have hm : t ∈ Tryd.f4.params.toList := Array.mem_toList_iff.2 (Array.mem_of_getElem? ht)
        have hall : (Tryd.f4.params.toList.all fun u => !Tryd.prog.wantsStandIn u) = true := by kernel_rfl
        exact (show Tryd.prog.wantsStandIn t = false by simpa using List.all_eq_true.1 hall t hm)⟩)
    (by kernel_rfl)
#print axioms fnExactTakeOldest_card
end Go.Proofs.YtmfdgpinohbckaaDoor
