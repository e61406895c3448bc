/-
  FnExactFewestCrates: for every number the law returns true, and its argument reads as before. No condition but that the sentinel errors hold what the program's text lays (tied).
-/
import Derived.Test.YtjiihdljchaeiafDoorCards
import Derived.Test.YtjiihdljchaeiafDoorTie
import Derived.Test.YtjiihdljchaeiafDoorG
import Derived.SevenTiedAt
namespace Go.Proofs.YtjiihdljchaeiafDoor
open Go.ChangeShapes Go.WideShapes Go.ChangeAt Go.RowKit

theorem fewest_in (n : Int) (w : World) (h0 : 0 ≤ n) (h1 : n ≤ 1000000) : Calls Tryd.prog 4 #[.int .i64 n] w (Good w) := by
  have h2 : ¬ n < 0 := by omega
  have h3 : ¬ 1000000 < n := by omega
  go_enter Tryd.func4, Tryd.ntmps4
  go_wp2
  go_ret
  exact ⟨rfl, (by repeat (first | exact Below.refl _ _ | refine Below.drew ?_ | refine Below.alloc ?_ (by simp <;> omega) _ | refine Below.setCell ?_ (by simp <;> omega) _))⟩
theorem fewest_out (n : Int) (w : World) {ad : Nat → Addr} (hE : EW 5 w ad) (h : n < 0 ∨ 1000000 < n) : Calls Tryd.prog 4 #[.int .i64 n] w (Good w) := by
  have c0 : w.cell? ⟨1, 0, none⟩ = some (.iface 100 (.pointer (some (ad 0)))) := hE.cell 0 (by omega)
  have HE := Lib.hid hE
  clear hE
  rcases h with h | h
  · go_enter Tryd.func4, Tryd.ntmps4
    go_wp2_with (first | (go_at_call 24; refine (codeOf_0 HE.out).mono ?_; rintro e w1 ⟨rfl, rfl⟩) | go_in)
    go_ret
    exact ⟨rfl, (by repeat (first | exact Below.refl _ _ | refine Below.drew ?_ | refine Below.alloc ?_ (by simp <;> omega) _ | refine Below.setCell ?_ (by simp <;> omega) _))⟩
  · have h0 : 0 ≤ n := by omega
    have h' : decide (n ≤ 1000000) = false := by simp; omega
    go_enter Tryd.func4, Tryd.ntmps4
    go_wp2_with (first | (go_at_call 24; refine (codeOf_0 HE.out).mono ?_; rintro e w1 ⟨rfl, rfl⟩) | go_in)
    go_ret
    exact ⟨rfl, (by repeat (first | exact Below.refl _ _ | refine Below.drew ?_ | refine Below.alloc ?_ (by simp <;> omega) _ | refine Below.setCell ?_ (by simp <;> omega) _))⟩
theorem fewest_any (n : Int) (w : World) {ad : Nat → Addr} (hE : EW 5 w ad) : Calls Tryd.prog 4 #[.int .i64 n] w (Good w) := by
  by_cases h : n < 0 ∨ 1000000 < n
  · exact fewest_out n w hE h
  · exact fewest_in n w (by omega) (by omega)

set_option maxRecDepth 100000 in
theorem fnExactFewestCrates_lifted (os : Os) (started : os.Started) (H : Type) (enc : TypeId × Value → H) :
    ReturnsInHanded {} Tryd.checked os 4 .any (fun w args => (Rows.fnExactFewestCratesSpec.pre enc Tryd.prog Tryd.f4 Rows.fnExactFewestCratesRow.domain false w args ∧ laidMetH Tryd.prog (lay sl6) w) ∧ sizedMet enc Tryd.prog Tryd.f4 (OpenSpec.ofChange Rows.fnExactFewestCratesSpec) false w args)
      (Rows.fnExactFewestCratesSpec.post enc Tryd.prog Tryd.f4 false true false false) := by
  refine law_liftL (C := Tryd.checked) 1 6 Tryd.own started (by kernel_rfl) Tryd.func4
    (ChangeSpec.witness_shaped (enc := enc) (C := Tryd.checked) (os := os) (X := fun w _ => laidMetH Tryd.prog (lay sl6) w) false (World.doorLaid Tryd.prog 142 os) #[.int .i64 0] 8 rfl (World.shaped_of_RefB (by kernel_rfl) (by kernel_rfl)) (by kernel_rfl) (by kernel_rfl) (by kernel_rfl)
      (laidMetH_of_parts3 (fuel := 8) (laidMet_of_run' 8 (by kernel_rfl) (by kernel_rfl)) (by kernel_rfl) (by kernel_rfl)))
    Tryd.laidOut (by kernel_rfl) rfl (by kernel_rfl) Tryd.underlying4 (by kernel_rfl) (by kernel_rfl)
    (fun ds gs h h' => by match ds, gs, h, h' with | [d1], [g1, g2, g3, g4, g5, g6], _, _ => rfl) ?_
  intro W base args ds p hL hval hA
  rw [Tryd.params4] at hA hval
  obtain ⟨v0, d0, rfl, rfl, h0⟩ := trodAll_one hA
  obtain ⟨n, rfl, rfl, rfl, wn⟩ := open_int Tryd.underlying2 (hval 0 2 v0 rfl rfl) h0
  obtain ⟨ad, hE⟩ := ew5_of hL
  exact fewest_any n W hE

theorem fnExactFewestCrates_row : Rows.FnExactFewestCratesSaid :=
  OpenClaim.holds_of_wide 4 Tryd.f4 rfl rfl rfl rfl rfl rfl rfl ⟨rfl, rfl, rfl, rfl, rfl⟩ rfl rfl rfl rfl rfl (by kernel_rfl) Tryd.func4 (by kernel_rfl)
    (of_decide_eq_true (by kernel_rfl)) (by unfold Func.isWrapper; rw [if_neg (of_decide_eq_false (by kernel_rfl))]; exact ⟨rfl, rfl⟩)
    (fun os started H enc _ => fnExactFewestCrates_lifted os started H enc)

theorem fnExactFewestCrates_card : Rows.FnExactFewestCratesCardSaid :=
  Claim7.holds_tied_plain_at .later [] [.sentinel, .sentinel, .sentinel, .sentinel, .sentinel, .sentinel] true (true, "9e9c3480a0ae119c33c92adc083ab7d9ee742b05bcb1b7fb9d102cb29e6f1cf3") true
    fnExactFewestCrates_row (fun _ h => by cases h) (by kernel_rfl) (fun _ h => by cases h) fnExactFewestCrates_row_tie rfl ⟨rfl, rfl⟩ (by kernel_rfl) rfl
    (fun f fn hf hfn => by
      obtain rfl : f = 4 := Option.some.inj ((show Tryd.prog.funcNamed "loop.example/g01353/laws.FnExactFewestCrates" = some 4 by kernel_rfl).symm.trans hf) |>.symm
      obtain rfl : fn = Tryd.f4 := (Option.some.inj (Tryd.func4.symm.trans hfn)).symm
      exact ⟨by kernel_rfl, fun j t ht => by
        have hm : t ∈ Tryd.f4.params.toList := Array.mem_toList_iff.2 (Array.mem_of_getElem? ht)
        have hall : (Tryd.f4.params.toList.all fun u => !Tryd.prog.wantsStandIn u) = true := by kernel_rfl
        exact (show Tryd.prog.wantsStandIn t = false by simpa using List.all_eq_true.1 hall t hm)⟩)
    (by kernel_rfl)
#print axioms fnExactFewestCrates_card
end Go.Proofs.YtjiihdljchaeiafDoor
