/-
  The program's checks of rows and of numbers. Condition: the row reads as numbers of eight bits; the sentinel errors lie as the row lists them.
-/
import Derived.Test.YtcdoablhnlkkmaaDoorYv0
import Derived.Test.YtcdoablhnlkkmaaDoorEo
namespace Go.Proofs.YtcdoablhnlkkmaaDoor
open Go.ChangeShapes Go.WideShapes Go.ChangeAt Go.RowKit Go.Deep

theorem checkWithin_any (n lo hi : Int) (ad : Nat → Addr) (w : World) (hE : EW 7 w ad) :
    Calls Tryd.prog 54 #[.int .i64 n, .int .i64 lo, .int .i64 hi] w fun e w' => e = .returned (erO ad (chk 0 (decide (lo ≤ n) && decide (n ≤ hi)))) ∧ w = w' := by
  have c0 : w.cell? ⟨3, 0, none⟩ = some (.iface 172 (.pointer (some (ad 0)))) := hE.cell 0 (by omega)
  clear hE
  go_enter Tryd.func54, Tryd.ntmps54
  go_wp2_with fail
  refine (isWithin_any _ _ _ _).mono ?_
  rintro e w0 ⟨rfl, rfl⟩
  cases hv : (decide (lo ≤ n) && decide (n ≤ hi))
  · have HV := Lib.hid hv
    clear hv
    go_wp2
    go_ret
    exact ⟨by (simp only [HV.out, chk_no, chk_yes, erO_some, erO_none]; first | done | rfl), rfl⟩
  · have HV := Lib.hid hv
    clear hv
    go_wp2
    go_ret
    exact ⟨by (simp only [HV.out, chk_no, chk_yes, erO_some, erO_none]; first | done | rfl), rfl⟩
/-- A slice of rows: heads that read as rows. -/
def hdR (r : Option Addr × Nat × Nat) : List Value := [.slice r.1 r.2.1 r.2.2]
end Go.Proofs.YtcdoablhnlkkmaaDoor
