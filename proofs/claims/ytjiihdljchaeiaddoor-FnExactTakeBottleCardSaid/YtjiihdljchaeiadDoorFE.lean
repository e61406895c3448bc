/-
  The contracts of checkPlace, of firstError at two errors. Condition: the sentinel errors lie as the row lists them.
-/
import Derived.Test.YtjiihdljchaeiadDoorQ
import Derived.Test.YtjiihdljchaeiadDoorW
namespace Go.Proofs.YtjiihdljchaeiadDoor
open Go.ChangeShapes Go.WideShapes Go.ChangeAt Go.RowKit Go.Deep

/-- What a check of a place answers. -/
def plV (ad : Nat → Addr) (n : Int) : Value := if 0 ≤ n ∧ n < 12 then .nilIface else errV (ad 0)

theorem checkPlace_any (n : Int) (ad : Nat → Addr) (w : World) (hE : EW 7 w ad) :
    Calls Tryd.prog 26 #[.int .i64 n] w fun e w' => e = .returned (plV ad n) ∧ w = w' := by
  have c0 : w.cell? ⟨4, 0, none⟩ = some (.iface 81 (.pointer (some (ad 0)))) := hE.cell 0 (by omega)
  clear hE
  by_cases h0 : n < 0
  · have hp : plV ad n = .iface 81 (.pointer (some (ad 0))) := by unfold plV; rw [if_neg (by omega)]; rfl
    rw [hp]
    clear hp
    go_enter Tryd.func26, Tryd.ntmps26
    go_wp2
    go_ret
    exact ⟨rfl, rfl⟩
  by_cases h1 : 12 ≤ n
  · have hp : plV ad n = .iface 81 (.pointer (some (ad 0))) := by unfold plV; rw [if_neg (by omega)]; rfl
    rw [hp]
    clear hp
    have h2 : 0 ≤ n := by omega
    go_enter Tryd.func26, Tryd.ntmps26
    go_wp2
    go_ret
    exact ⟨rfl, rfl⟩
  · have hp : plV ad n = .nilIface := by unfold plV; rw [if_pos (by omega)]
    rw [hp]
    clear hp
    have h2 : 0 ≤ n := by omega
    have h3 : n < 12 := by omega
    clear h0
    go_enter Tryd.func26, Tryd.ntmps26
    go_wp2
    go_ret
    exact ⟨rfl, rfl⟩

/-- The first of the checks. -/
theorem first2_hit (a : Addr) (B c : Nat) (w : World) (h0 : w.cell? ⟨B, 0, none⟩ = some (.iface 81 (.pointer (some a)))) :
    Calls Tryd.prog 23 #[.slice (some ⟨B, 0, none⟩) 2 c] w fun e w' => e = .returned (.iface 81 (.pointer (some a))) ∧ w = w' := by
  go_enter Tryd.func23, Tryd.ntmps23
  go_wp2
  refine wp_loop_rounds 3 ?_
  rw [rounds_succ]
  go_wp2
  go_ret
  exact ⟨rfl, rfl⟩
theorem first2_second (a : Addr) (B c : Nat) (w : World) (h0 : w.cell? ⟨B, 0, none⟩ = some .nilIface) (h1 : w.cell? ⟨B, 1, none⟩ = some (.iface 81 (.pointer (some a)))) :
    Calls Tryd.prog 23 #[.slice (some ⟨B, 0, none⟩) 2 c] w fun e w' => e = .returned (.iface 81 (.pointer (some a))) ∧ w = w' := by
  go_enter Tryd.func23, Tryd.ntmps23
  go_wp2
  refine wp_loop_rounds 3 ?_
  rw [rounds_succ]
  go_wp2
  rw [rounds_succ]
  go_wp2
  go_ret
  exact ⟨rfl, rfl⟩
theorem first2_none (B c : Nat) (w : World) (h0 : w.cell? ⟨B, 0, none⟩ = some .nilIface) (h1 : w.cell? ⟨B, 1, none⟩ = some .nilIface) :
    Calls Tryd.prog 23 #[.slice (some ⟨B, 0, none⟩) 2 c] w fun e w' => e = .returned .nilIface ∧ w = w' := by
  go_enter Tryd.func23, Tryd.ntmps23
  go_wp2
  refine wp_loop_rounds 3 ?_
  rw [rounds_succ]
  go_wp2
  rw [rounds_succ]
  go_wp2
  rw [rounds_succ]
  go_wp2
  go_ret
  exact ⟨rfl, rfl⟩
end Go.Proofs.YtjiihdljchaeiadDoor
