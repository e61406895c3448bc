/-
  MissingIn: the check of two lists' lengths; the program's contract. Condition: the entries' numbers fit their kinds; the sentinel errors lie as the row lists them.
-/
import Derived.Test.YtlfamfdgphhbcabDoorMis1
namespace Go.Proofs.YtlfamfdgphhbcabDoor
open Go.ChangeShapes Go.WideShapes Go.ChangeAt Go.RowKit Go.Deep

def big2 (a b : List Ent) : Option Nat := if a.length ≤ 80 ∧ b.length ≤ 80 then none else some 1
theorem checkMany2_any (a b : List Ent) (A1 A2 : Option Addr) (c1 c2 B c : Nat) (ad : Nat → Addr) (w : World) (hla : a.length ≤ 1048576) (hlb : b.length ≤ 1048576) (h0 : w.cell? ⟨B, 0, none⟩ = some (.slice A1 a.length c1)) (h1 : w.cell? ⟨B, 1, none⟩ = some (.slice A2 b.length c2)) (hE : EW 5 w ad) :
    Calls Tryd.prog 36 #[.slice (some ⟨B, 0, none⟩) 2 c] w fun e w' => e = .returned (erO ad (big2 a b)) ∧ Below w.heap.size w w' := by
  have hBl := block_lt_of_cell h0
  have HC0 := Lib.hid h0
  have HC1 := Lib.hid h1
  have HE := Lib.hid hE
  clear h0 h1 hE
  go_enter Tryd.func36, Tryd.ntmps36
  go_wp2_with fail
  go_loopw [4, 7] (fun _ i wr => ∃ (k : Nat), k ≤ 2 ∧ i = .int .i64 k ∧ (1 ≤ k → ¬ 80 < a.length) ∧ (2 ≤ k → ¬ 80 < b.length) ∧ Below w.heap.size w wr) (fun _ i _ => 2 - (intOf i).toNat)
  case atStart => exact ⟨0, by omega, rfl, fun h => absurd h (by decide), fun h => absurd h (by decide), Below.refl _ _⟩
  case round =>
    obtain ⟨k, hk, rfl, hT, hT2, hB⟩ := hrel
    have HT := Lib.hid hT
    have HT2 := Lib.hid hT2
    have HB := Lib.hid hB
    clear hT hT2 hB
    have c1 : wr.cell? ⟨0, 0, none⟩ = some (.iface 189 (.pointer (some (ad 1)))) := (HE.out.below HB.out (Nat.le_refl _)).cell 1 (by omega)
    by_cases hz : k = 0
    · subst hz
      have e1 := (HB.out.cell (p := ⟨B, 0, none⟩) hBl).trans HC0.out
      by_cases hlo : 80 < a.length
      · have E : Hid (big2 a b = some 1) := by show _ = _; rw [big2, if_neg (by omega)]
        have hlo' : (80 : Int) < a.length := by omega
        clear hlo
        go_wp2
        go_ret
        exact ⟨by rw [E.out]; rfl, HB.out⟩
      · have hlo' : ¬ (80 : Int) < a.length := by omega
        have HLO := Lib.hid hlo
        clear hlo
        go_wp2
        go_roundw
        case rel => exact ⟨1, by omega, by go_num, fun _ => HLO.out, fun h => absurd h (by decide), HB.out⟩
        case measure => simp [intOf]
    · by_cases hz1 : k = 1
      · subst hz1
        have e1 := (HB.out.cell (p := ⟨B, 1, none⟩) hBl).trans HC1.out
        by_cases hlo : 80 < b.length
        · have E : Hid (big2 a b = some 1) := by show _ = _; rw [big2, if_neg (by omega)]
          have hlo' : (80 : Int) < b.length := by omega
          clear hlo
          go_wp2
          go_ret
          exact ⟨by rw [E.out]; rfl, HB.out⟩
        · have hlo' : ¬ (80 : Int) < b.length := by omega
          have HLO := Lib.hid hlo
          clear hlo
          go_wp2
          go_roundw
          case rel => exact ⟨2, by omega, by go_num, fun _ => HT.out (by omega), fun _ => HLO.out, HB.out⟩
          case measure => simp [intOf]
      · obtain rfl : k = 2 := by omega
        have E : Hid (big2 a b = none) := by
          show _ = _
          have h1 := HT.out (by omega)
          have h2 := HT2.out (by omega)
          rw [big2, if_pos (by omega)]
        go_wp2
        go_ret
        exact ⟨by rw [E.out]; rfl, HB.out⟩

set_option maxRecDepth 100000 in
set_option maxHeartbeats 4000000 in
theorem implMissing_any (a b : List Ent) (hwa : ∀ x ∈ a, wfE x) (hwb : ∀ x ∈ b, wfE x) (A B : Option Addr) (ca cb : Nat) (ad : Nat → Addr) (w : World) (hla : a.length ≤ 1048576) (hlb : b.length ≤ 1048576) (hra : Rd w w.heap.size ecells A a) (hrb : Rd w w.heap.size ecells B b) (hE : EW 5 w ad) :
    Calls Tryd.prog 10 #[.slice A a.length ca, .slice B b.length cb] w fun e w' => ∃ v, e = .returned (.tuple #[v, .int .i64 (msC a b)]) ∧ w'.ownsRow w.heap.size 67 5 v (msL a b).length ((msL a b).flatMap ecells) ∧ Below w.heap.size w w' := by
  have HE := Lib.hid hE
  have hA0 : Below w.heap.size w (w.alloc (.cells #[.slice A a.length ca, .slice B b.length cb] 24)) := (Below.refl _ w).alloc (Nat.le_refl _) _
  have hK := Blk.new w 24 #[.slice A a.length ca, .slice B b.length cb]
  have HCh := Lib.hid (checkMany2_any a b A B ca cb w.heap.size 2 ad _ hla hlb (hK.cell 0) (hK.cell 1) (HE.out.below hA0 (Nat.le_refl _)))
  have HRa := Lib.hid hra
  have HRb := Lib.hid hrb
  have HWa := Lib.hid hwa
  have HWb := Lib.hid hwb
  clear hra hrb hwa hwb hE hK
  go_enter Tryd.func10, Tryd.ntmps10
  go_wp2_with fail
  refine HCh.out.mono ?_
  rintro e w3 ⟨rfl, hb⟩
  have M2 : Hid (Below w.heap.size w w3) := hA0.trans (hb.mono hA0.size)
  clear hb hA0 HCh
  by_cases hlo : a.length ≤ 80 ∧ b.length ≤ 80
  · have E := Lib.hid (ms_yes hlo)
    rw [show big2 a b = none from by rw [big2, if_pos hlo], erO_none]
    have HM := Lib.hid (missingIn_any a b HWa.out HWb.out hlo.1 hlo.2 A B ca cb w3 (HRa.out.keep M2.out) (HRb.out.keep M2.out))
    clear hlo
    go_wp2_with fail
    refine HM.out.mono ?_
    rintro e w4 ⟨v, rfl, hO, hb⟩
    have HO := Lib.hid (own_base hO M2.out.size)
    have HB := Lib.hid (M2.out.trans (hb.mono M2.out.size))
    clear hO hb HM
    go_wp2
    go_ret2
    refine ⟨v, by (rw [E.out.1]; first | done | rfl), ?_, HB.out⟩
    rw [E.out.2]; exact HO.out
  · have E := Lib.hid (ms_no hlo)
    rw [show big2 a b = some 1 from by rw [big2, if_neg hlo], erO_some]
    clear hlo
    go_wp2_with fail
    refine (codeOf_1 (HE.out.below M2.out (Nat.le_refl _))).mono ?_
    rintro e w4 ⟨rfl, rfl⟩
    go_wp2
    go_ret2
    refine ⟨.slice none 0 0, by (rw [E.out.1]; first | done | rfl), ?_, M2.out⟩
    rw [E.out.2]; exact nil_ownEn _ _
end Go.Proofs.YtlfamfdgphhbcabDoor
