/-
  The program's checks of rows and of numbers. Condition: the row reads as numbers of eight bits; the sentinel errors lie as the row lists them.
-/
import Derived.Test.YtlfamfdgphhbcabDoorYv0
import Derived.Test.YtlfamfdgphhbcabDoorEo
namespace Go.Proofs.YtlfamfdgphhbcabDoor
open Go.ChangeShapes Go.WideShapes Go.ChangeAt Go.RowKit Go.Deep

theorem checkWithin_any (n lo hi : Int) (ad : Nat → Addr) (w : World) (hE : EW 7 w ad) :
    Calls Tryd.prog 52 #[.int .i64 n, .int .i64 lo, .int .i64 hi] w fun e w' => e = .returned (erO ad (chk 0 (decide (lo ≤ n) && decide (n ≤ hi)))) ∧ w = w' := by
  have c0 : w.cell? ⟨1, 0, none⟩ = some (.iface 189 (.pointer (some (ad 0)))) := hE.cell 0 (by omega)
  clear hE
  go_enter Tryd.func52, Tryd.ntmps52
  go_wp2_with fail
  refine (isWithin_any _ _ _ _).mono ?_
  rintro e w0 ⟨rfl, rfl⟩
  cases hv : (decide (lo ≤ n) && decide (n ≤ hi))
  · have HV := Lib.hid hv
    clear hv
    go_wp2
    go_ret
    exact ⟨by (simp only [HV.out, chk_no, chk_yes, erO_some, erO_none]; first | done | rfl), rfl⟩
  · have HV := Lib.hid hv
    clear hv
    go_wp2
    go_ret
    exact ⟨by (simp only [HV.out, chk_no, chk_yes, erO_some, erO_none]; first | done | rfl), rfl⟩
/-- A slice of rows: heads that read as rows. -/
def hdR (r : Option Addr × Nat × Nat) : List Value := [.slice r.1 r.2.1 r.2.2]
theorem checkEachY_any (rs : List (List Int)) (hs : List (Option Addr × Nat × Nat)) (B c : Nat) (ad : Nat → Addr) (w : World) (hl : hs.length ≤ 1048576) (hlen : rs.length = hs.length)
    (hc : ∀ (j : Nat) h r, hs[j]? = some h → rs[j]? = some r → B < w.heap.size ∧ w.cell? ⟨B, j, none⟩ = some (.slice h.1 r.length h.2.2) ∧ r.length ≤ 1048576 ∧ Rd w w.heap.size ycells h.1 r) (hE : EW 7 w ad) :
    Calls Tryd.prog 77 #[.slice (some ⟨B, 0, none⟩) hs.length c, .func (.func 78) #[] #[]] w fun e w' => e = .returned (erO ad (chk 5 (rs.all yOk))) ∧ Below w.heap.size w w' := by
  have HC := Lib.hid hc
  have HE := Lib.hid hE
  clear hc hE
  go_enter Tryd.func77, Tryd.ntmps77
  go_wp2_with fail
  go_loopw [9] (fun i wr => ∃ (k : Nat), k ≤ hs.length ∧ i = .int .i64 k ∧ AllTo yOk rs k ∧ Below w.heap.size w wr) (fun i _ => hs.length - (intOf i).toNat)
  case atStart => exact ⟨0, by omega, rfl, AllTo.zero _ _, Below.refl _ _⟩
  case round =>
    obtain ⟨k, hk, rfl, hT, hB⟩ := hrel
    have HT := Lib.hid hT
    have HB := Lib.hid hB
    clear hT hB
    by_cases hlt : k < hs.length
    · obtain ⟨⟨a, m, c'⟩, hh⟩ : ∃ x, hs[k]? = some x := ⟨_, List.getElem?_eq_getElem hlt⟩
      obtain ⟨r, hr⟩ : ∃ x, rs[k]? = some x := ⟨_, List.getElem?_eq_getElem (by omega)⟩
      obtain ⟨hBl, hcell, hrl, hrd⟩ := HC.out k _ _ hh hr
      have e1 := (HB.out.cell (p := ⟨B, k, none⟩) hBl).trans hcell
      have HRd : Hid (Rd wr wr.heap.size ycells a r) := hrd.keep HB.out
      have HX := Lib.hid hr
      have hk0 : (0 : Int) ≤ (k : Int) := Int.natCast_nonneg _
      have hk8 : (k : Int) < hs.length := by omega
      dsimp only at e1
      clear hh hr hcell hrd
      go_wp2_with fail
      refine (isValidR_any r a c' _ hrl HRd.out).mono ?_
      rintro e w1 ⟨rfl, hb1⟩
      have HB1 : Hid (Below w.heap.size w w1) := HB.out.trans (hb1.mono HB.out.size)
      have c5 : w1.cell? ⟨6, 0, none⟩ = some (.iface 189 (.pointer (some (ad 5)))) := (HE.out.below HB1.out (Nat.le_refl _)).cell 5 (by omega)
      clear hb1 e1
      cases hv : yOk r
      · have HV := Lib.hid hv
        clear hv
        go_wp2
        go_ret
        exact ⟨by rw [all_no HX.out HV.out]; rfl, HB1.out⟩
      · have HV := Lib.hid hv
        clear hv
        go_wp2
        go_roundw
        case rel => exact ⟨k + 1, by omega, by go_num, HT.out.step HX.out HV.out, HB1.out⟩
        case measure => simp [intOf]; omega
    · obtain rfl : k = hs.length := by omega
      have HT2 : Hid (rs.all yOk = true) := by show _ = true; exact AllTo.all (by rw [hlen]; exact HT.out)
      go_wp2
      go_ret
      exact ⟨by rw [HT2.out]; rfl, HB.out⟩
theorem checkRows1_any (r : List Int) (a : Option Addr) (c' B c : Nat) (ad : Nat → Addr) (w : World) (hl : r.length ≤ 1048576) (hc : w.cell? ⟨B, 0, none⟩ = some (.slice a r.length c')) (hr : Rd w w.heap.size ycells a r) (hE : EW 7 w ad) :
    Calls Tryd.prog 50 #[.slice (some ⟨B, 0, none⟩) 1 c] w fun e w' => e = .returned (erO ad (chk 5 (yOk r))) ∧ Below w.heap.size w w' := by
  have hBl := block_lt_of_cell hc
  have H : Hid (Calls Tryd.prog 77 #[.slice (some ⟨B, 0, none⟩) 1 c, .func (.func 78) #[] #[]] w fun e w' => e = .returned (erO ad (chk 5 (yOk r))) ∧ Below w.heap.size w w') := by
    have := checkEachY_any [r] [(a, r.length, c')] B c ad w (by simp) rfl (fun j h r' hh hr' => by
      match j with
      | 0 =>
        obtain rfl := Option.some.inj hh
        obtain rfl := Option.some.inj hr'
        exact ⟨hBl, hc, hl, hr⟩
      | _ + 1 => simp at hh) hE
    rw [show ([r] : List (List Int)).all yOk = yOk r from by simp] at this
    exact this
  clear hc hr hE hBl
  go_enter Tryd.func50, Tryd.ntmps50
  go_wp2_with fail
  refine H.out.mono ?_
  rintro e w1 ⟨rfl, hb⟩
  have HB := Lib.hid hb
  obtain ⟨v, hv⟩ : ∃ v, erO ad (chk 5 (yOk r)) = v := ⟨_, rfl⟩
  have HV := Lib.hid hv
  rw [hv]
  clear hb hv
  go_wp2
  go_ret
  exact ⟨by (rw [HV.out]; first | done | rfl), HB.out⟩

end Go.Proofs.YtlfamfdgphhbcabDoor
