/-
  FnExactPutBottle: the law, whole.
-/
import Derived.Test.YtjiihdljchaeiadDoorPc
import Derived.Test.YtjiihdljchaeiadDoorPd
namespace Go.Proofs.YtjiihdljchaeiadDoor
open Go.ChangeShapes Go.WideShapes Go.ChangeAt Go.RowKit Go.Deep

theorem putLaw_any (bs : List Bot) (hwf : WfC bs) (n p q : Int) (hp : 0 ≤ p ∧ p ≤ 255) (hq : -32768 ≤ q ∧ q ≤ 32767) (ad : Nat → Addr) (w : World) (hE : EW 7 w ad) : Calls Tryd.prog 3 #[.agg (ccells bs).toArray, .int .i64 n, .agg #[.int .u8 p, .int .i16 q]] w (Good w) := by
  have wfN : WfC noB := ⟨rfl, by intro b hb; simp [noB] at hb; subst hb; simp [wfB]⟩
  cases hok : okC bs
  · cases hv : vB (p, q)
    · by_cases hn : 0 ≤ n ∧ n < 12
      · exact putLaw_gen bs hwf n p q noB wfN 1 (fun w => specPut_bad0 bs hwf p q hp hq n hok w) (fun ad w hE => implPut_bad001 bs hwf n p q hok hv hn ad w hE) ad w hE
      · exact putLaw_gen bs hwf n p q noB wfN 1 (fun w => specPut_bad0 bs hwf p q hp hq n hok w) (fun ad w hE => implPut_bad000 bs hwf n p q hok hv hn ad w hE) ad w hE
    · by_cases hn : 0 ≤ n ∧ n < 12
      · exact putLaw_gen bs hwf n p q noB wfN 1 (fun w => specPut_bad0 bs hwf p q hp hq n hok w) (fun ad w hE => implPut_bad011 bs hwf n p q hok hv hn ad w hE) ad w hE
      · exact putLaw_gen bs hwf n p q noB wfN 1 (fun w => specPut_bad0 bs hwf p q hp hq n hok w) (fun ad w hE => implPut_bad010 bs hwf n p q hok hv hn ad w hE) ad w hE
  · cases hv : vB (p, q)
    · by_cases hn : 0 ≤ n ∧ n < 12
      · exact putLaw_gen bs hwf n p q noB wfN 1 (fun w => specPut_bad1 bs hwf p q hp hq n hok hv w) (fun ad w hE => implPut_bad11 bs hwf n p q hok hv hn ad w hE) ad w hE
      · exact putLaw_gen bs hwf n p q noB wfN 1 (fun w => specPut_bad1 bs hwf p q hp hq n hok hv w) (fun ad w hE => implPut_bad10 bs hwf n p q hok hv hn ad w hE) ad w hE
    · by_cases hn : 0 ≤ n ∧ n < 12
      · obtain ⟨k, rfl⟩ : ∃ k : Nat, n = k := ⟨n.toNat, by omega⟩
        have hk : k < 12 := by omega
        obtain ⟨x, y, hbk, _, _⟩ := hwf.at_ hk
        cases hb : eB (x, y)
        · exact putLaw_gen bs hwf k p q noB wfN 4 (fun w => specPut_state bs hwf p q hp hq k hk x y hbk hok hv hb w) (fun ad w hE => implPut_state bs hwf p q k hk x y hbk hb hok hv ad w hE) ad w hE
        · refine putLaw_gen bs hwf k p q (bs.set k (p, q)) ⟨by rw [List.length_set]; exact hwf.1, fun b hb => ?_⟩ 0 (fun w => specPut_some bs hwf p q hp hq k hk x y hbk hok hv hb w) (fun ad w hE => implPut_some bs hwf p q k hk x y hbk hb hok hv ad w hE) ad w hE
          rcases List.mem_or_eq_of_mem_set hb with h | h
          · exact hwf.2 b h
          · subst h; simp [wfB]; omega
      · refine putLaw_gen bs hwf n p q noB wfN 2 (fun w => ?_) (fun ad w hE => implPut_range bs hwf n p q hok hv hn ad w hE) ad w hE
        by_cases h0 : n < 0
        · exact specPut_range0 bs hwf p q hp hq n hok hv h0 w
        · exact specPut_range1 bs hwf p q hp hq n hok hv (by omega) w

set_option maxRecDepth 100000 in
theorem fnExactPutBottle_lifted (os : Os) (started : os.Started) (H : Type) (enc : TypeId × Value → H) :
    ReturnsInHanded {} Tryd.checked os 3 .any (fun w args => (Rows.fnExactPutBottleSpec.pre enc Tryd.prog Tryd.f3 Rows.fnExactPutBottleRow.domain false w args ∧ laidMetH Tryd.prog (lay sl7) w) ∧ sizedMet enc Tryd.prog Tryd.f3 (OpenSpec.ofChange Rows.fnExactPutBottleSpec) false w args)
      (Rows.fnExactPutBottleSpec.post enc Tryd.prog Tryd.f3 false true false false) := by
  refine law_liftL (C := Tryd.checked) 3 7 Tryd.own started (by kernel_rfl) Tryd.func3
    (ChangeSpec.witness_shaped (enc := enc) (C := Tryd.checked) (os := os) (X := fun w _ => laidMetH Tryd.prog (lay sl7) w) false (World.doorLaid Tryd.prog 142 os) #[.agg #[.int .u8 0, .int .i16 0, .int .u8 0, .int .i16 0, .int .u8 0, .int .i16 0, .int .u8 0, .int .i16 0, .int .u8 0, .int .i16 0, .int .u8 0, .int .i16 0, .int .u8 0, .int .i16 0, .int .u8 0, .int .i16 0, .int .u8 0, .int .i16 0, .int .u8 0, .int .i16 0, .int .u8 0, .int .i16 0, .int .u8 0, .int .i16 0], .int .i64 0, .agg #[.int .u8 0, .int .i16 0]] 8 rfl (World.shaped_of_RefB (by kernel_rfl) (by kernel_rfl)) (by kernel_rfl) (by kernel_rfl) (by kernel_rfl)
      (laidMetH_of_parts3 (fuel := 8) (laidMet_of_run' 8 (by kernel_rfl) (by kernel_rfl)) (by kernel_rfl) (by kernel_rfl)))
    Tryd.laidOut (by kernel_rfl) rfl (by kernel_rfl) Tryd.underlying4 (by kernel_rfl) (by kernel_rfl)
    (fun ds gs h h' => by match ds, gs, h, h' with | [d1, d2, d3], [g1, g2, g3, g4, g5, g6, g7], _, _ => rfl) ?_
  intro W base args ds p hL hval hA
  rw [Tryd.params3] at hA hval
  obtain ⟨v0, v1, v2, d0, d1, d2, r0, r1, r2, rfl, rfl, rfl, h0, h1, h2⟩ := trodAll_three hA
  obtain ⟨bs, hl, rfl, hwf⟩ := open_crate (n := 12) Tryd.underlying25 (by kernel_rfl) Tryd.underlying24 Tryd.underlying5 Tryd.underlying22 (by kernel_rfl) (by kernel_rfl) (hval 0 25 v0 rfl rfl) h0
  obtain ⟨n, rfl, rfl, rfl, wn⟩ := open_int Tryd.underlying2 (hval 1 2 v1 rfl rfl) h1
  obtain ⟨⟨p, q⟩, ⟨a1, a2, a3, a4⟩, rfl⟩ := open_bottle Tryd.underlying24 Tryd.underlying5 Tryd.underlying22 (by kernel_rfl) (by kernel_rfl) (hval 2 24 v2 rfl rfl) h2
  obtain ⟨ad, hE⟩ := ew7_of hL
  exact putLaw_any bs ⟨hl, hwf⟩ n p q ⟨a1, a2⟩ ⟨a3, a4⟩ ad W hE

theorem fnExactPutBottle_row : Rows.FnExactPutBottleSaid :=
  OpenClaim.holds_of_wide 3 Tryd.f3 rfl rfl rfl rfl rfl rfl rfl ⟨rfl, rfl, rfl, rfl, rfl⟩ rfl rfl rfl rfl rfl (by kernel_rfl) Tryd.func3 (by kernel_rfl)
    (of_decide_eq_true (by kernel_rfl)) (by unfold Func.isWrapper; rw [if_neg (of_decide_eq_false (by kernel_rfl))]; exact ⟨rfl, rfl⟩)
    (fun os started H enc _ => fnExactPutBottle_lifted os started H enc)

theorem fnExactPutBottle_card : Rows.FnExactPutBottleCardSaid :=
  Claim7.holds_tied_plain_at .later [] [.sentinel, .sentinel, .sentinel, .sentinel, .sentinel, .sentinel, .sentinel] true (true, "2bc591f4d2f62dbd1fc91a1381c07e26b06ad54de8418bcbe3f9ca9cd24dd515") true
    fnExactPutBottle_row (fun _ h => by cases h) (by kernel_rfl) (fun _ h => by cases h) fnExactPutBottle_row_tie rfl ⟨rfl, rfl⟩ (by kernel_rfl) rfl
    (fun f fn hf hfn => by
      obtain rfl : f = 3 := Option.some.inj ((show Tryd.prog.funcNamed "loop.example/g01353/laws.FnExactPutBottle" = some 3 by kernel_rfl).symm.trans hf) |>.symm
      obtain rfl : fn = Tryd.f3 := (Option.some.inj (Tryd.func3.symm.trans hfn)).symm
      exact ⟨by kernel_rfl, fun j t ht => by
        have hm : t ∈ Tryd.f3.params.toList := Array.mem_toList_iff.2 (Array.mem_of_getElem? ht)
        have hall : (Tryd.f3.params.toList.all fun u => !Tryd.prog.wantsStandIn u) = true := by kernel_rfl
        exact (show Tryd.prog.wantsStandIn t = false by simpa using List.all_eq_true.1 hall t hm)⟩)
    (by kernel_rfl)
#print axioms fnExactPutBottle_card
end Go.Proofs.YtjiihdljchaeiadDoor
