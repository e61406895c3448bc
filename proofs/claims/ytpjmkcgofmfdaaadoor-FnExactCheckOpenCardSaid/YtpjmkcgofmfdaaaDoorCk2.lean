/-
  The contract of the program's checkStack. Condition: the list reads as crates whose numbers fit their kinds; the sentinel errors lie as the row lists them.
-/
import Derived.Test.YtpjmkcgofmfdaaaDoorVs
import Derived.Test.YtpjmkcgofmfdaaaDoorEz
import Derived.Test.YtpjmkcgofmfdaaaDoorKn
namespace Go.Proofs.YtpjmkcgofmfdaaaDoor
open Go.ChangeShapes Go.WideShapes Go.ChangeAt Go.RowKit Go.Deep

theorem checkStack_any (xs : List Crt) (A : Option Addr) (c : Nat) (ad : Nat → Addr) (w : World) (hl : xs.length ≤ 1048576) (hr : Rd w w.heap.size kcells A xs) (hE : EW 7 w ad) :
    Calls Tryd.prog 54 #[.slice A xs.length c] w fun e w' => e = .returned (erV ad 5 (okS xs)) ∧ Below w.heap.size w w' := by
  have HE := Lib.hid hE
  have HR := Lib.hid hr
  clear hE hr
  go_enter Tryd.func54, Tryd.ntmps54
  go_wp2_with fail
  refine (validStack_any xs A c _ hl HR.out).mono ?_
  rintro e w1 ⟨rfl, hb⟩
  have HB := Lib.hid hb
  have c5 : w1.cell? ⟨6, 0, none⟩ = some (.iface 128 (.pointer (some (ad 5)))) := (HE.out.below hb (Nat.le_refl _)).cell 5 (by omega)
  clear hb
  cases hv : okS xs
  · have Hv := Lib.hid hv
    clear hv
    go_wp2
    go_ret
    exact ⟨by rw [Hv.out]; rfl, HB.out⟩
  · have Hv := Lib.hid hv
    clear hv
    go_wp2
    go_ret
    exact ⟨by rw [Hv.out]; rfl, HB.out⟩

end Go.Proofs.YtpjmkcgofmfdaaaDoor
