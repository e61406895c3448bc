/-
  The program's checkMarks. Condition: the sentinel errors lie as the row lists them.
-/
import Derived.Test.YtlagnocglkoomaaDoorTv
namespace Go.Proofs.YtlagnocglkoomaaDoor
open Go.ChangeShapes Go.WideShapes Go.ChangeAt Go.RowKit Go.Deep

theorem checkMarks_any (n : Int) (m : List (List Int)) (A : Option Addr) (c : Nat) (ad : Nat → Addr) (w : World) (hl : m.length ≤ 1048576) (hx : ∀ xs ∈ m, xs.length ≤ 1048576) (hr : RdN w w.heap.size icells A m) (hE : EW 7 w ad) :
    Calls Tryd.prog 19 #[.int .i64 n, .slice A m.length c] w fun e w' => e = .returned (erO ad (chk 5 (mkOk n m))) ∧ Below w.heap.size w w' := by
  have HC := Lib.hid (implValidMarks_any n m A c ad w hl hx hr (I05.of7 hE))
  have HE := Lib.hid hE
  clear hr hx hE
  go_enter Tryd.func19, Tryd.ntmps19
  go_wp2_with fail
  refine HC.out.mono ?_
  rintro e w1 ⟨rfl, hb⟩
  have HB := Lib.hid hb
  have c5 : w1.cell? ⟨0, 0, none⟩ = some (.iface 121 (.pointer (some (ad 5)))) := (HE.out.below hb (Nat.le_refl _)).cell 5 (by omega)
  clear hb
  cases hv : mkOk n m
  · have HV := Lib.hid hv
    clear hv
    go_wp2
    go_ret
    exact ⟨by rw [HV.out, chk_no]; rfl, HB.out⟩
  · have HV := Lib.hid hv
    clear hv
    go_wp2
    go_ret
    exact ⟨by rw [HV.out, chk_yes]; rfl, HB.out⟩
end Go.Proofs.YtlagnocglkoomaaDoor
