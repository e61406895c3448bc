/-
  The program's checks of rows, walkers, days and spans; the model's l05Asked. Condition: the row and the walkers read as told, their numbers fit their kinds; the sentinel errors lie as the row lists them (the program's).
-/
import Derived.Test.YtcalooahafgfbaaDoorYw
import Derived.Test.YtcalooahafgfbaaDoorYa0
namespace Go.Proofs.YtcalooahafgfbaaDoor
open Go.ChangeShapes Go.WideShapes Go.ChangeAt Go.RowKit Go.Deep

theorem checkWalkers_any (n : Int) (hn : wfI6 n) (l : List Wal) (hwf : ∀ x ∈ l, wfV x) (A : Option Addr) (c : Nat) (ad : Nat → Addr) (w : World) (hl : l.length ≤ 1048576) (hr : Rd w w.heap.size vcells A l) (hE : EW 7 w ad) :
    Calls Tryd.prog 20 #[.int .i64 n, .slice A l.length c] w fun e w' => e = .returned (erO ad (chk 5 (vsOk n l))) ∧ Below w.heap.size w w' := by
  have HR := Lib.hid hr
  have HE := Lib.hid hE
  clear hr hE
  go_enter Tryd.func20, Tryd.ntmps20
  go_wp2_with fail
  refine (implValidWalkers_any n hn l hwf A c w hl HR.out).mono ?_
  rintro e w1 ⟨rfl, hb⟩
  have c5 : w1.cell? ⟨0, 0, none⟩ = some (.iface 89 (.pointer (some (ad 5)))) := (HE.out.below hb (Nat.le_refl _)).cell 5 (by omega)
  have HB := Lib.hid hb
  clear hb
  cases hv : vsOk n l
  · have HV := Lib.hid hv
    clear hv
    go_wp2
    go_ret
    exact ⟨by (simp only [HV.out, chk_no, chk_yes, erO_some, erO_none]; first | done | rfl), HB.out⟩
  · have HV := Lib.hid hv
    clear hv
    go_wp2
    go_ret
    exact ⟨by (simp only [HV.out, chk_no, chk_yes, erO_some, erO_none]; first | done | rfl), HB.out⟩
theorem l05Asked_any (n : Int) (hn : wfI6 n) (l : List Wal) (hwf : ∀ x ∈ l, wfV x) (f : Bool) (A : Option Addr) (c : Nat) (w : World) (hl : l.length ≤ 1048576) (hr : Rd w w.heap.size vcells A l) :
    Calls Tryd.prog 17 #[.int .i64 n, .slice A l.length c, .bool f] w fun e w' => e = .returned (.int .i64 (akV n l f)) ∧ Below w.heap.size w w' := by
  have HR := Lib.hid hr
  clear hr
  go_enter Tryd.func17, Tryd.ntmps17
  go_wp2_with fail
  refine (l05Walkers_any n hn l hwf A c w hl HR.out).mono ?_
  rintro e w1 ⟨rfl, hb⟩
  have HB := Lib.hid hb
  clear hb
  cases hv : vsOk n l
  · have HV : Hid (akV n l f = 1) := by show akV n l f = 1; simp [akV, hv]
    clear hv
    go_wp2
    go_ret
    exact ⟨by (rw [HV.out]; first | done | rfl), HB.out⟩
  cases f
  · have HV : Hid (akV n l false = 2) := by show akV n l false = 2; simp [akV, hv]
    clear hv
    go_wp2
    go_ret
    exact ⟨by (rw [HV.out]; first | done | rfl), HB.out⟩
  · have HV : Hid (akV n l true = 0) := by show akV n l true = 0; simp [akV, hv]
    clear hv
    go_wp2
    go_ret
    exact ⟨by (rw [HV.out]; first | done | rfl), HB.out⟩
end Go.Proofs.YtcalooahafgfbaaDoor
