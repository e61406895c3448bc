/-
  The contracts of BottleText, of the model and of the program. Condition: the numbers fit their kinds; the library's table reads as its text lays it (the program's).
-/
import Derived.Test.YtjjdehnpnfdjcabDoorIa
import Derived.Test.YtjjdehnpnfdjcabDoorShelf
namespace Go.Proofs.YtjjdehnpnfdjcabDoor
open Go.ChangeShapes Go.WideShapes Go.ChangeAt Go.RowKit Go.Deep Go.Joins

theorem itoaN (n : Nat) (hn : n ≤ 1000000) (w : World) (ht : Tab w) : Calls Tryd.prog 26 #[.int .i64 n] w fun e w' => e = .returned (.string (decS n)) ∧ Below w.heap.size w w' :=
  (Tryd.strconv_Itoa n (by omega) (by omega) w ht).mono fun e w' ⟨he, k, os, hw⟩ => by
    refine ⟨?_, by rw [hw]; exact below_grow w k os⟩
    rw [he, decS, Lib.itoa, if_neg (by omega)]
    rfl

/-- The text of a bottle. -/
def btS (k y : Nat) : ByteArray := decS k ++ ⟨#[58]⟩ ++ decS y
theorem bt_sizes (k y : Nat) (hk : k ≤ 1000) (hy : y ≤ 100000) : (decS k).size + 1 ≤ 9223372036854775807 ∧ (decS k ++ ⟨#[58]⟩).size + (decS y).size ≤ 9223372036854775807 ∧ (decS k).size + (⟨#[58]⟩ : ByteArray).size ≤ 9223372036854775807 ∧ (decS k).size + (⟨#[58]⟩ : ByteArray).size + (decS y).size ≤ 9223372036854775807 ∧ (decS k).size + 1 + (decS y).size ≤ 9223372036854775807 := by
  have h1 := decS_size k
  have h2 := decS_size y
  have h3 : (decS k ++ (⟨#[58]⟩ : ByteArray)).size = (decS k).size + 1 := by rw [ByteArray.size_append]; rfl
  have h4 : (⟨#[58]⟩ : ByteArray).size = 1 := rfl
  omega
theorem keptBx {W0 w1 w2 : World} {B : Nat} {k y : Int} (hB : B < W0.heap.size) (h : Below W0.heap.size W0 w1) (hb : Below w1.heap.size w1 w2) (a0 : w1.cell? ⟨B, 0, none⟩ = some (.int .u8 k)) (a1 : w1.cell? ⟨B, 1, none⟩ = some (.int .i16 y)) :
    w2.cell? ⟨B, 0, none⟩ = some (.int .u8 k) ∧ w2.cell? ⟨B, 1, none⟩ = some (.int .i16 y) ∧ Below W0.heap.size W0 w2 := by
  have hs := h.size
  exact ⟨(hb.cell (p := ⟨B, 0, none⟩) (by show B < _; omega)).trans a0, (hb.cell (p := ⟨B, 1, none⟩) (by show B < _; omega)).trans a1, h.trans (hb.mono hs)⟩

set_option maxRecDepth 100000 in
set_option maxHeartbeats 2000000 in
theorem l01BottleText_any (k y : Nat) (hk : k ≤ 255) (hy : y ≤ 32767) (w : World) : Calls Tryd.prog 47 #[.agg #[.int .u8 k, .int .i16 y]] w fun e w' => e = .returned (.string (btS k y)) ∧ Below w.heap.size w w' := by
  have hk1 : (0 : Int) ≤ k := by omega
  have hk2 : (k : Int) ≤ 255 := by omega
  have hy1 : (0 : Int) ≤ y := by omega
  have hy2 : (y : Int) ≤ 32767 := by omega
  have hwk : IntKind.i64.wrap (k : Int) = k := IntWalk.i64_in _ ⟨by omega, by omega⟩
  have hwy : IntKind.i64.wrap (y : Int) = y := IntWalk.i64_in _ ⟨by omega, by omega⟩
  obtain ⟨hs1, hs2, hs3, hs4, hs5⟩ := bt_sizes k y (by omega) (by omega)
  have hn1 : ¬ (9223372036854775807 < (decS k).size + 1) := by omega
  have hn2 : ¬ (9223372036854775807 < (decS k).size + 1 + (decS y).size) := by omega
  go_enter Tryd.func47, Tryd.ntmps47
  go_wp2_with fail
  obtain ⟨W0, hW0⟩ : ∃ W0, w.alloc (.cells #[.int .u8 k, .int .i16 y] 47) = W0 := ⟨_, rfl⟩
  have a0 : W0.cell? ⟨w.heap.size, 0, none⟩ = some (.int .u8 k) := by rw [← hW0]; simp
  have a1 : W0.cell? ⟨w.heap.size, 1, none⟩ = some (.int .i16 y) := by rw [← hW0]; simp
  have hsz : w.heap.size < W0.heap.size := by rw [← hW0]; simp
  have hB : Below w.heap.size w W0 := by rw [← hW0]; exact (by repeat (first | exact Below.refl _ _ | refine Below.drew ?_ | refine Below.alloc ?_ (by simp <;> omega) _ | refine Below.setCell ?_ (by simp <;> omega) _))
  rw [hW0]
  clear hW0
  have HB := Lib.hid hB
  clear hB
  have hs0 : Below W0.heap.size W0 W0 := Below.refl _ _
  go_region_held3 (fun w' => w'.cell? ⟨w.heap.size, 0, none⟩ = some (.int .u8 k) ∧ w'.cell? ⟨w.heap.size, 1, none⟩ = some (.int .i16 y) ∧ Below W0.heap.size W0 w') ((refine ⟨?_, ?_, ?_⟩ <;> (first | assumption | exact Below.drew ‹_› | (simp [*]; done))))
    (first
      | (go_at_call 48; refine (decimal_any _ (by omega) _).mono ?_; rintro e w2 ⟨rfl, hb⟩; obtain ⟨r0, r1, r2⟩ := keptBx hsz (by first | assumption | exact Below.drew (by assumption)) hb (by assumption) (by assumption)))
  have HR : Hid (Below W0.heap.size W0 w2) := (by assumption : Below W0.heap.size W0 w2)
  go_wp2
  go_ret
  exact ⟨rfl, HB.out.trans (HR.out.mono HB.out.size)⟩

/-- What BottleText answers. -/
def btV (k y : Int) : ByteArray := if vB (k, y) = true then btS k.toNat y.toNat else ⟨#[]⟩
set_option maxRecDepth 100000 in
set_option maxHeartbeats 2000000 in
theorem bottleText_any (k y : Int) (w : World) (ht : Tab w) : Calls Tryd.prog 25 #[.agg #[.int .u8 k, .int .i16 y]] w fun e w' => e = .returned (.string (btV k y)) ∧ Below w.heap.size w w' := by
  have HT := Lib.hid ht
  clear ht
  go_enter Tryd.func25, Tryd.ntmps25
  go_wp2_with fail
  refine (validBottle_any k y _).mono ?_
  rintro e w1 ⟨rfl, hb0⟩
  have hb : Below w.heap.size w w1 := ((Below.refl _ w).alloc (Nat.le_refl _) _).trans (hb0.mono (by simp))
  have a0 : w1.cell? ⟨w.heap.size, 0, none⟩ = some (.int .u8 k) := (hb0.cell (p := ⟨w.heap.size, 0, none⟩) (by simp)).trans (by simp)
  have a1 : w1.cell? ⟨w.heap.size, 1, none⟩ = some (.int .i16 y) := (hb0.cell (p := ⟨w.heap.size, 1, none⟩) (by simp)).trans (by simp)
  have HB := Lib.hid hb
  have hsz : w.heap.size < w1.heap.size := Nat.lt_of_lt_of_le (by simp) hb0.size
  clear hb hb0
  cases hv : vB (k, y)
  · have Hv := Lib.hid hv
    clear hv
    go_wp2
    go_ret
    exact ⟨by rw [btV, Hv.out]; rfl, HB.out⟩
  · have Hv := Lib.hid hv
    have hv' := hv
    simp only [vB, Bool.and_eq_true, decide_eq_true_eq] at hv'
    obtain ⟨kn, rfl⟩ : ∃ n : Nat, k = n := ⟨k.toNat, by omega⟩
    obtain ⟨yn, rfl⟩ : ∃ n : Nat, y = n := ⟨y.toNat, by omega⟩
    have hk : kn ≤ 255 := by omega
    have hy : yn ≤ 32767 := by omega
    clear hv hv'
    have hk1 : (0 : Int) ≤ kn := by omega
    have hk2 : (kn : Int) ≤ 255 := by omega
    have hy1 : (0 : Int) ≤ yn := by omega
    have hy2 : (yn : Int) ≤ 32767 := by omega
    have hwk : IntKind.i64.wrap (kn : Int) = kn := IntWalk.i64_in _ ⟨by omega, by omega⟩
    have hwy : IntKind.i64.wrap (yn : Int) = yn := IntWalk.i64_in _ ⟨by omega, by omega⟩
    obtain ⟨hs1, hs2, hs3, hs4, hs5⟩ := bt_sizes kn yn (by omega) (by omega)
    have hn1 : ¬ (9223372036854775807 < (decS kn).size + 1) := by omega
    have hn2 : ¬ (9223372036854775807 < (decS kn).size + 1 + (decS yn).size) := by omega
    have hs0 : Below w1.heap.size w1 w1 := Below.refl _ _
    go_wp2_with fail
    go_region_held3 (fun w' => w'.cell? ⟨w.heap.size, 0, none⟩ = some (.int .u8 kn) ∧ w'.cell? ⟨w.heap.size, 1, none⟩ = some (.int .i16 yn) ∧ Below w1.heap.size w1 w') ((refine ⟨?_, ?_, ?_⟩ <;> (first | assumption | exact Below.drew ‹_› | (simp [*]; done))))
      (first
        | (go_at_call 26; refine (itoaN _ (by omega) _ (HT.out.on (HB.out.trans ((show Below w1.heap.size w1 _ by first | assumption | exact Below.drew (by assumption)).mono HB.out.size)) (Nat.le_refl _))).mono ?_; rintro e w2 ⟨rfl, hb⟩; obtain ⟨r0, r1, r2⟩ := keptBx hsz (by first | assumption | exact Below.drew (by assumption)) hb (by assumption) (by assumption)))
    have HR : Hid (Below w1.heap.size w1 w2) := (by assumption : Below w1.heap.size w1 w2)
    go_wp2
    go_ret
    exact ⟨by rw [btV, Hv.out]; rfl, HB.out.trans (HR.out.mono HB.out.size)⟩
end Go.Proofs.YtjjdehnpnfdjcabDoor
