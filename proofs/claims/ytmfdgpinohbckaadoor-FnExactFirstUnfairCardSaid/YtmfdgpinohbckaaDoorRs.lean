/-
  The contracts of StoredIn and FreeIn, of the model and of the program. Condition: the rack reads as lists of things that are stored, whose numbers fit their kinds, not more than 1048576; the sentinel errors lie as the row lists them (the program's).
-/
import Derived.Test.YtmfdgpinohbckaaDoorRv
namespace Go.Proofs.YtmfdgpinohbckaaDoor
open Go.ChangeShapes Go.WideShapes Go.ChangeAt Go.RowKit Go.Deep

/-- The code of a function of a rack alone; a number that it tells. -/
def rkC (xss : List (List Wnt)) : Int := if rkOk xss = true then 0 else 1
def rkN (xss : List (List Wnt)) (n : Int) : Int := if rkOk xss = true then n else 0
theorem rkC_yes {xss : List (List Wnt)} (h : rkOk xss = true) : rkC xss = 0 := by rw [rkC, if_pos h]
theorem rkC_no {xss : List (List Wnt)} (h : rkOk xss = false) : rkC xss = 1 := by simp [rkC, h]
theorem rkN_yes {xss : List (List Wnt)} (h : rkOk xss = true) (n : Int) : rkN xss n = n := by rw [rkN, if_pos h]
theorem rkN_no {xss : List (List Wnt)} (h : rkOk xss = false) (n : Int) : rkN xss n = 0 := by simp [rkN, h]

set_option maxHeartbeats 1000000 in
theorem checkRack_any (xss : List (List Wnt)) (A : Option Addr) (c : Nat) (ad : Nat → Addr) (w : World) (hl : xss.length ≤ 1048576) (hx : ∀ xs ∈ xss, xs.length ≤ 1048576) (hr : RdN w w.heap.size wcells A xss) (hE : EW 7 w ad) :
    Calls Tryd.prog 40 #[.slice A xss.length c] w fun e w' => e = .returned (erV ad 5 (rkOk xss)) ∧ Below w.heap.size w w' := by
  have HR := Lib.hid hr
  have HX := Lib.hid hx
  have HE := Lib.hid hE
  clear hr hx hE
  go_enter Tryd.func40, Tryd.ntmps40
  go_wp2_with fail
  refine (validRack_any xss A c ad w hl HX.out HR.out HE.out.i5).mono ?_
  rintro e w1 ⟨rfl, hb⟩
  have HB := Lib.hid hb
  have c0 : w1.cell? ⟨1, 0, none⟩ = some (.iface 165 (.pointer (some (ad 5)))) := ((HE.out).below HB.out (Nat.le_refl _)).cell 5 (by omega)
  clear hb
  cases hv : rkOk xss
  · have HV := Lib.hid hv
    clear hv
    go_wp2
    go_ret
    exact ⟨by (rw [HV.out]; first | done | rfl), HB.out⟩
  · have HV := Lib.hid hv
    clear hv
    go_wp2
    go_ret
    exact ⟨by (rw [HV.out]; first | done | rfl), HB.out⟩
theorem erV5_no (ad : Nat → Addr) : erV ad 5 false = .iface 165 (.pointer (some (ad 5))) := rfl
theorem erV_yes (ad : Nat → Addr) (k : Nat) : erV ad k true = .nilIface := rfl

end Go.Proofs.YtmfdgpinohbckaaDoor
