/-
  FnExactGrossOf: for every number the law returns true, and its argument reads as before. No condition but that the sentinel errors hold what the program's text lays (tied).
-/
import Derived.Test.YtjiihdljchaeiafDoorCards
import Derived.Test.YtjiihdljchaeiafDoorTie
import Derived.Test.YtjiihdljchaeiafDoorG
import Derived.SevenTiedAt
namespace Go.Proofs.YtjiihdljchaeiafDoor
open Go.ChangeShapes Go.WideShapes Go.ChangeAt Go.RowKit

theorem grossS_in (n : Int) (w : World) (h0 : 0 ≤ n) (h1 : n ≤ 1000000) : Calls Tryd.prog 12 #[.int .i64 n] w fun e w' => e = .returned (.tuple #[.int .i64 (n / 144), .int .i64 (n % 144 / 12), .int .i64 (n % 12), .int .i64 0]) ∧ w = w' := by
  have h2 : ¬ n < 0 := by omega
  have h3 : ¬ 1000000 < n := by omega
  go_enter Tryd.func12, Tryd.ntmps12
  go_wp2
  exact bodyPost_ret (v := .tuple #[.int .i64 (n / 144), .int .i64 (n % 144 / 12), .int .i64 (n % 12), .int .i64 0]) (by simp [results, Tryd.results12, go_sem]) rfl ⟨rfl, rfl⟩
theorem grossI_in (n : Int) (w : World) (h0 : 0 ≤ n) (h1 : n ≤ 1000000) : Calls Tryd.prog 13 #[.int .i64 n] w fun e w' => e = .returned (.tuple #[.int .i64 (n / 144), .int .i64 (n % 144 / 12), .int .i64 (n % 12), .int .i64 0]) ∧ w = w' := by
  have h2 : ¬ n < 0 := by omega
  have h3 : ¬ 1000000 < n := by omega
  go_enter Tryd.func13, Tryd.ntmps13
  go_wp2
  exact bodyPost_ret (v := .tuple #[.int .i64 (n / 144), .int .i64 (n % 144 / 12), .int .i64 (n % 12), .int .i64 0]) (by simp [results, Tryd.results13, go_sem]) rfl ⟨rfl, rfl⟩
theorem grossS_out (n : Int) (w : World) (h : n < 0 ∨ 1000000 < n) : Calls Tryd.prog 12 #[.int .i64 n] w fun e w' => e = .returned (.tuple #[.int .i64 0, .int .i64 0, .int .i64 0, .int .i64 2]) ∧ w = w' := by
  rcases h with h | h
  · go_enter Tryd.func12, Tryd.ntmps12
    go_wp2
    exact bodyPost_ret (v := .tuple #[.int .i64 0, .int .i64 0, .int .i64 0, .int .i64 2]) (by simp [results, Tryd.results12, go_sem]) rfl ⟨rfl, rfl⟩
  · have h0 : 0 ≤ n := by omega
    have h' : decide (n ≤ 1000000) = false := by simp; omega
    go_enter Tryd.func12, Tryd.ntmps12
    go_wp2
    exact bodyPost_ret (v := .tuple #[.int .i64 0, .int .i64 0, .int .i64 0, .int .i64 2]) (by simp [results, Tryd.results12, go_sem]) rfl ⟨rfl, rfl⟩
theorem grossI_out (n : Int) (w : World) {ad : Nat → Addr} (hE : EW 5 w ad) (h : n < 0 ∨ 1000000 < n) : Calls Tryd.prog 13 #[.int .i64 n] w fun e w' => e = .returned (.tuple #[.int .i64 0, .int .i64 0, .int .i64 0, .int .i64 2]) ∧ w = w' := by
  have c0 : w.cell? ⟨1, 0, none⟩ = some (.iface 100 (.pointer (some (ad 0)))) := hE.cell 0 (by omega)
  have HE := Lib.hid hE
  clear hE
  rcases h with h | h
  · go_enter Tryd.func13, Tryd.ntmps13
    go_wp2_with (first | (go_at_call 24; refine (codeOf_0 HE.out).mono ?_; rintro e w1 ⟨rfl, rfl⟩) | go_in)
    exact bodyPost_ret (v := .tuple #[.int .i64 0, .int .i64 0, .int .i64 0, .int .i64 2]) (by simp [results, Tryd.results13, go_sem]) rfl ⟨rfl, rfl⟩
  · have h0 : 0 ≤ n := by omega
    have h' : decide (n ≤ 1000000) = false := by simp; omega
    go_enter Tryd.func13, Tryd.ntmps13
    go_wp2_with (first | (go_at_call 24; refine (codeOf_0 HE.out).mono ?_; rintro e w1 ⟨rfl, rfl⟩) | go_in)
    exact bodyPost_ret (v := .tuple #[.int .i64 0, .int .i64 0, .int .i64 0, .int .i64 2]) (by simp [results, Tryd.results13, go_sem]) rfl ⟨rfl, rfl⟩
theorem gross_any (n : Int) (w : World) {ad : Nat → Addr} (hE : EW 5 w ad) : Calls Tryd.prog 5 #[.int .i64 n] w (Good w) := by
  have HE := Lib.hid hE
  clear hE
  by_cases h : n < 0 ∨ 1000000 < n
  · have H := Lib.hid h
    clear h
    go_enter Tryd.func5, Tryd.ntmps5
    go_wp2_with fail
    refine (grossS_out n _ H.out).mono ?_
    rintro e w1 ⟨rfl, rfl⟩
    go_wp2_with fail
    refine (grossI_out n _ HE.out H.out).mono ?_
    rintro e w1 ⟨rfl, rfl⟩
    go_wp2
    go_ret
    exact ⟨rfl, Below.refl _ _⟩
  · have h0 : Hid (0 ≤ n) := by show 0 ≤ n; omega
    have h1 : Hid (n ≤ 1000000) := by show n ≤ 1000000; omega
    clear h
    go_enter Tryd.func5, Tryd.ntmps5
    go_wp2_with fail
    refine (grossS_in n _ h0.out h1.out).mono ?_
    rintro e w1 ⟨rfl, rfl⟩
    go_wp2_with fail
    refine (grossI_in n _ h0.out h1.out).mono ?_
    rintro e w1 ⟨rfl, rfl⟩
    go_wp2
    go_ret
    exact ⟨rfl, Below.refl _ _⟩

set_option maxRecDepth 100000 in
theorem fnExactGrossOf_lifted (os : Os) (started : os.Started) (H : Type) (enc : TypeId × Value → H) :
    ReturnsInHanded {} Tryd.checked os 5 .any (fun w args => (Rows.fnExactGrossOfSpec.pre enc Tryd.prog Tryd.f5 Rows.fnExactGrossOfRow.domain false w args ∧ laidMetH Tryd.prog (lay sl6) w) ∧ sizedMet enc Tryd.prog Tryd.f5 (OpenSpec.ofChange Rows.fnExactGrossOfSpec) false w args)
      (Rows.fnExactGrossOfSpec.post enc Tryd.prog Tryd.f5 false true false false) := by
  refine law_liftL (C := Tryd.checked) 1 6 Tryd.own started (by kernel_rfl) Tryd.func5
    (ChangeSpec.witness_shaped (enc := enc) (C := Tryd.checked) (os := os) (X := fun w _ => laidMetH Tryd.prog (lay sl6) w) false (World.doorLaid Tryd.prog 142 os) #[.int .i64 0] 8 rfl (World.shaped_of_RefB (by kernel_rfl) (by kernel_rfl)) (by kernel_rfl) (by kernel_rfl) (by kernel_rfl)
      (laidMetH_of_parts3 (fuel := 8) (laidMet_of_run' 8 (by kernel_rfl) (by kernel_rfl)) (by kernel_rfl) (by kernel_rfl)))
    Tryd.laidOut (by kernel_rfl) rfl (by kernel_rfl) Tryd.underlying4 (by kernel_rfl) (by kernel_rfl)
    (fun ds gs h h' => by match ds, gs, h, h' with | [d1], [g1, g2, g3, g4, g5, g6], _, _ => rfl) ?_
  intro W base args ds p hL hval hA
  rw [Tryd.params5] at hA hval
  obtain ⟨v0, d0, rfl, rfl, h0⟩ := trodAll_one hA
  obtain ⟨n, rfl, rfl, rfl, wn⟩ := open_int Tryd.underlying2 (hval 0 2 v0 rfl rfl) h0
  obtain ⟨ad, hE⟩ := ew5_of hL
  exact gross_any n W hE

theorem fnExactGrossOf_row : Rows.FnExactGrossOfSaid :=
  OpenClaim.holds_of_wide 5 Tryd.f5 rfl rfl rfl rfl rfl rfl rfl ⟨rfl, rfl, rfl, rfl, rfl⟩ rfl rfl rfl rfl rfl (by kernel_rfl) Tryd.func5 (by kernel_rfl)
    (of_decide_eq_true (by kernel_rfl)) (by unfold Func.isWrapper; rw [if_neg (of_decide_eq_false (by kernel_rfl))]; exact ⟨rfl, rfl⟩)
    (fun os started H enc _ => fnExactGrossOf_lifted os started H enc)

theorem fnExactGrossOf_card : Rows.FnExactGrossOfCardSaid :=
  Claim7.holds_tied_plain_at .later [] [.sentinel, .sentinel, .sentinel, .sentinel, .sentinel, .sentinel] true (true, "9e9c3480a0ae119c33c92adc083ab7d9ee742b05bcb1b7fb9d102cb29e6f1cf3") true
    fnExactGrossOf_row (fun _ h => by cases h) (by kernel_rfl) (fun _ h => by cases h) fnExactGrossOf_row_tie rfl ⟨rfl, rfl⟩ (by kernel_rfl) rfl
    (fun f fn hf hfn => by
      obtain rfl : f = 5 := Option.some.inj ((show Tryd.prog.funcNamed "loop.example/g01353/laws.FnExactGrossOf" = some 5 by kernel_rfl).symm.trans hf) |>.symm
      obtain rfl : fn = Tryd.f5 := (Option.some.inj (Tryd.func5.symm.trans hfn)).symm
      exact ⟨by kernel_rfl, fun j t ht => by
        have hm : t ∈ Tryd.f5.params.toList := Array.mem_toList_iff.2 (Array.mem_of_getElem? ht)
        have hall : (Tryd.f5.params.toList.all fun u => !Tryd.prog.wantsStandIn u) = true := by kernel_rfl
        exact (show Tryd.prog.wantsStandIn t = false by simpa using List.all_eq_true.1 hall t hm)⟩)
    (by kernel_rfl)
#print axioms fnExactGrossOf_card
end Go.Proofs.YtjiihdljchaeiafDoor
