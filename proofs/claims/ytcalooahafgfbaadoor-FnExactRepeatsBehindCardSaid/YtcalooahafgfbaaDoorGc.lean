/-
  The contracts of l05Common, commonDivisor: the greatest common divisor. No condition of its own but that the numbers are not too great.
-/
import Derived.Test.YtcalooahafgfbaaDoorL
import Derived.WalkSmall
import Derived.Lib.Hide
namespace Go.Proofs.YtcalooahafgfbaaDoor
open Go.ChangeShapes Go.WideShapes Go.ChangeAt Go.RowKit Go.Deep

theorem gcd_step {a b : Nat} : Nat.gcd b (a % b) = Nat.gcd a b := by rw [Nat.gcd_comm, ← Nat.gcd_rec, Nat.gcd_comm]
set_option maxHeartbeats 1000000 in
theorem l05Common_any (a0 b0 : Nat) (ha : a0 ≤ 1000000000000000000) (hb : b0 ≤ 1000000000000000000) (w : World) :
    Calls Tryd.prog 27 #[.int .i64 a0, .int .i64 b0] w fun e w' => e = .returned (.int .i64 (Nat.gcd a0 b0 : Nat)) ∧ Below w.heap.size w w' := by
  go_enter Tryd.func27, Tryd.ntmps27
  go_wp2_with fail
  go_loopw [0, 1] (fun u v wr => ∃ (a b : Nat), a ≤ 1000000000000000000 ∧ b ≤ 1000000000000000000 ∧ u = .int .i64 a ∧ v = .int .i64 b ∧ Nat.gcd a b = Nat.gcd a0 b0 ∧ Below w.heap.size w wr) (fun _ v _ => (intOf v).toNat)
  case atStart => exact ⟨a0, b0, ha, hb, rfl, rfl, rfl, Below.refl _ _⟩
  case round =>
    obtain ⟨a, b, ha, hb, rfl, rfl, hg, hB⟩ := hrel
    have HG := Lib.hid hg
    have HB := Lib.hid hB
    clear hg hB
    by_cases hz : b = 0
    · subst hz
      have HG2 : Hid (Nat.gcd a0 b0 = a) := by show _ = _; rw [← HG.out, Nat.gcd_zero_right]
      clear HG
      go_wp2
      go_ret
      exact ⟨by rw [HG2.out]; rfl, HB.out⟩
    · have hb1 : (0 : Int) < (b : Int) := by omega
      have hb2 : ((b : Int) == 0) = false := by simpa using hz
      have hb3 : ¬ (b : Int) = 0 := by omega
      have ha0 : (0 : Int) ≤ (a : Int) := Int.natCast_nonneg _
      have hm : (a : Int) % (b : Int) = ((a % b : Nat) : Int) := by simp
      have hlt : a % b < b := Nat.mod_lt _ (by omega)
      have hm2 : Int.tmod (a : Int) (b : Int) = ((a % b : Nat) : Int) := by rw [Int.tmod_eq_emod_of_nonneg ha0, hm]
      obtain ⟨r, hr⟩ : ∃ r, a % b = r := ⟨_, rfl⟩
      have HR : Hid (Nat.gcd b r = Nat.gcd a0 b0) := by show _ = _; rw [← hr, gcd_step, HG.out]
      rw [hr] at hm hm2 hlt
      have hw1 : IntKind.i64.wrap (r : Int) = r := IntWalk.i64_in _ ⟨by omega, by omega⟩
      have hw2 : wrap64 (r : Int) = r := IntWalk.wrap64_in _ ⟨by omega, by omega⟩
      clear hr HG
      go_wp2
      go_roundw
      case rel => exact ⟨b, r, by omega, by omega, rfl, rfl, HR.out, by first | exact HB.out | exact HB.out.drew⟩
      case measure => simp [intOf]; omega
set_option maxHeartbeats 1000000 in
theorem commonDivisor_any (a0 b0 : Nat) (ha : a0 ≤ 1000000000000000000) (hb : b0 ≤ 1000000000000000000) (w : World) :
    Calls Tryd.prog 30 #[.int .i64 a0, .int .i64 b0] w fun e w' => e = .returned (.int .i64 (Nat.gcd a0 b0 : Nat)) ∧ Below w.heap.size w w' := by
  go_enter Tryd.func30, Tryd.ntmps30
  go_wp2_with fail
  go_loopw [0, 1] (fun u v wr => ∃ (a b : Nat), a ≤ 1000000000000000000 ∧ b ≤ 1000000000000000000 ∧ u = .int .i64 a ∧ v = .int .i64 b ∧ Nat.gcd a b = Nat.gcd a0 b0 ∧ Below w.heap.size w wr) (fun _ v _ => (intOf v).toNat)
  case atStart => exact ⟨a0, b0, ha, hb, rfl, rfl, rfl, Below.refl _ _⟩
  case round =>
    obtain ⟨a, b, ha, hb, rfl, rfl, hg, hB⟩ := hrel
    have HG := Lib.hid hg
    have HB := Lib.hid hB
    clear hg hB
    by_cases hz : b = 0
    · subst hz
      have HG2 : Hid (Nat.gcd a0 b0 = a) := by show _ = _; rw [← HG.out, Nat.gcd_zero_right]
      clear HG
      go_wp2
      go_ret
      exact ⟨by rw [HG2.out]; rfl, HB.out⟩
    · have hb1 : (0 : Int) < (b : Int) := by omega
      have hb2 : ((b : Int) == 0) = false := by simpa using hz
      have hb3 : ¬ (b : Int) = 0 := by omega
      have ha0 : (0 : Int) ≤ (a : Int) := Int.natCast_nonneg _
      have hm : (a : Int) % (b : Int) = ((a % b : Nat) : Int) := by simp
      have hlt : a % b < b := Nat.mod_lt _ (by omega)
      have hm2 : Int.tmod (a : Int) (b : Int) = ((a % b : Nat) : Int) := by rw [Int.tmod_eq_emod_of_nonneg ha0, hm]
      obtain ⟨r, hr⟩ : ∃ r, a % b = r := ⟨_, rfl⟩
      have HR : Hid (Nat.gcd b r = Nat.gcd a0 b0) := by show _ = _; rw [← hr, gcd_step, HG.out]
      rw [hr] at hm hm2 hlt
      have hw1 : IntKind.i64.wrap (r : Int) = r := IntWalk.i64_in _ ⟨by omega, by omega⟩
      have hw2 : wrap64 (r : Int) = r := IntWalk.wrap64_in _ ⟨by omega, by omega⟩
      clear hr HG
      go_wp2_with fail
      go_region
      go_wp2
      go_roundw
      case rel => exact ⟨b, r, by omega, by omega, rfl, rfl, HR.out, by first | exact HB.out | exact HB.out.drew⟩
      case measure => simp [intOf]; omega
end Go.Proofs.YtcalooahafgfbaaDoor
