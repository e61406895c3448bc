/-
  The program's checkWithin where the error for ranges alone is known. Condition: the sentinel error lies as the row lists it.
-/
import Derived.Test.YtlagnocglkoomaaDoorYv0
import Derived.Test.YtlagnocglkoomaaDoorEo
namespace Go.Proofs.YtlagnocglkoomaaDoor
open Go.ChangeShapes Go.WideShapes Go.ChangeAt Go.RowKit Go.Deep

theorem checkWithinC_any (n lo hi : Int) (ad : Nat → Addr) (w : World) (c0 : w.cell? ⟨1, 0, none⟩ = some (.iface 121 (.pointer (some (ad 0))))) :
    Calls Tryd.prog 50 #[.int .i64 n, .int .i64 lo, .int .i64 hi] w fun e w' => e = .returned (erO ad (chk 0 (decide (lo ≤ n) && decide (n ≤ hi)))) ∧ w = w' := by
  go_enter Tryd.func50, Tryd.ntmps50
  go_wp2_with fail
  refine (isWithin_any _ _ _ _).mono ?_
  rintro e w0 ⟨rfl, rfl⟩
  cases hv : (decide (lo ≤ n) && decide (n ≤ hi))
  · have HV := Lib.hid hv
    clear hv
    go_wp2
    go_ret
    exact ⟨by (simp only [HV.out, chk_no, chk_yes, erO_some, erO_none]; first | done | rfl), rfl⟩
  · have HV := Lib.hid hv
    clear hv
    go_wp2
    go_ret
    exact ⟨by (simp only [HV.out, chk_no, chk_yes, erO_some, erO_none]; first | done | rfl), rfl⟩
theorem checkSamples_any (n : Int) (ad : Nat → Addr) (w : World) (c0 : w.cell? ⟨1, 0, none⟩ = some (.iface 121 (.pointer (some (ad 0))))) :
    Calls Tryd.prog 35 #[.int .i64 n] w fun e w' => e = .returned (erO ad (chk 0 (decide (1 ≤ n) && decide (n ≤ 8)))) ∧ w = w' := by
  have HC := Lib.hid (checkWithinC_any n 1 8 ad w c0)
  obtain ⟨v, hv⟩ : ∃ v, erO ad (chk 0 (decide (1 ≤ n) && decide (n ≤ 8))) = v := ⟨_, rfl⟩
  rw [hv] at HC ⊢
  clear hv c0
  go_enter Tryd.func35, Tryd.ntmps35
  go_wp2_with fail
  refine HC.out.mono ?_
  rintro e w0 ⟨rfl, rfl⟩
  go_wp2
  go_ret
  exact ⟨rfl, rfl⟩
end Go.Proofs.YtlagnocglkoomaaDoor
