/-
  The contracts of AllWalkEvery, of the model and of the program, and of what they call. Condition: the walkers' numbers fit their kinds; the sentinel errors lie as the row lists them (the program's).
-/
import Derived.Test.YtcalooahafgfbaaDoorYa
import Derived.Test.YtcalooahafgfbaaDoorYe
import Derived.Test.YtcalooahafgfbaaDoorGc
namespace Go.Proofs.YtcalooahafgfbaaDoor
open Go.ChangeShapes Go.WideShapes Go.ChangeAt Go.RowKit Go.Deep

theorem lcmTo_no {l : List Wal} (h : ∀ x ∈ l, 1 ≤ x.ev) {k : Nat} (hk : k ≤ l.length) (hb : 1000000 < lcmTo l k) : ¬ lcmA l ≤ 1000000 := by
  have := lcmTo_mono h l.length hk (Nat.le_refl _)
  unfold lcmA
  omega
def evN (l : List Wal) : Int := if lcmA l ≤ 1000000 then (lcmA l : Int) else 0
def evB (l : List Wal) : Bool := decide (lcmA l ≤ 1000000)
theorem rowV {w : World} {b o : Nat} {x : Wal} (h : w.rangeAt b o (vcells x)) : w.cell? ⟨b, o, none⟩ = some (.int .i16 x.fi) ∧ w.cell? ⟨b, o + 1, none⟩ = some (.int .i16 x.ev) ∧ w.cell? ⟨b, o + 2, none⟩ = some (.int .i16 x.st) ∧ w.cell? ⟨b, o + 3, none⟩ = some (.int .i16 x.sp) ∧ w.cell? ⟨b, o + 4, none⟩ = some (.int .i16 x.co) ∧ w.cell? ⟨b, o + 5, none⟩ = some (.int .i8 x.tu) :=
  ⟨h 0 _ rfl, h 1 _ rfl, h 2 _ rfl, h 3 _ rfl, h 4 _ rfl, h 5 _ rfl⟩
set_option maxHeartbeats 2000000 in
theorem l05Every_any (l : List Wal) (hv : ∀ x ∈ l, 1 ≤ x.ev ∧ x.ev ≤ 100) (A : Option Addr) (c : Nat) (w : World) (hl : l.length ≤ 8) (hr : Rd w w.heap.size vcells A l) :
    Calls Tryd.prog 18 #[.slice A l.length c] w fun e w' => e = .returned (.tuple #[.int .i64 (evN l), .bool (evB l)]) ∧ Below w.heap.size w w' := by
  have HR := Lib.hid hr
  have HV := Lib.hid hv
  clear hr hv
  go_enter Tryd.func18, Tryd.ntmps18
  go_wp2_with fail
  go_loopw [4, 5] (fun a i wr => ∃ (k : Nat), k ≤ l.length ∧ i = .int .i64 k ∧ a = .int .i64 (lcmTo l k : Nat) ∧ lcmTo l k ≤ 1000000 ∧ Below w.heap.size w wr) (fun _ i _ => l.length - (intOf i).toNat)
  case atStart => exact ⟨0, by omega, rfl, rfl, by simp [lcmTo], Below.refl _ _⟩
  case round =>
    obtain ⟨k, hk, rfl, rfl, hm, hB⟩ := hrel
    have HB := Lib.hid hB
    clear hB
    by_cases hlt : k < l.length
    · obtain ⟨x, hx⟩ : ∃ x, l[k]? = some x := ⟨_, List.getElem?_eq_getElem hlt⟩
      obtain ⟨b, o, rfl, hbl, hrow⟩ := (HR.out.below (Nat.le_refl _) HB.out).at_ vcells_length hx
      obtain ⟨-, e1, -, -, -, -⟩ := rowV hrow
      have hxv := HV.out x (List.mem_of_getElem? hx)
      have hpos := lcmTo_pos (l := l) (fun x hx => (HV.out x hx).1) k hk
      have hs := lcmTo_succ hx
      obtain ⟨m, hm0⟩ : ∃ m, lcmTo l k = m := ⟨_, rfl⟩
      obtain ⟨ev, hev⟩ : ∃ ev : Nat, x.ev = ev := ⟨x.ev.toNat, by omega⟩
      have hle := lcmTo_le HV.out (k + 1) (by omega)
      rw [hm0] at hm hpos hs ⊢
      have h18 : m ≤ 1000000000000000000 := Nat.le_trans hm (by decide)
      have h19 : ev ≤ 1000000000000000000 := by omega
      have HC : Hid (∀ w, Calls Tryd.prog 27 #[.int .i64 m, .int .i64 ev] w fun e w' => e = .returned (.int .i64 (Nat.gcd m ev : Nat)) ∧ Below w.heap.size w w') := fun w => l05Common_any m ev h18 h19 w
      rw [hev] at e1 hxv hs
      rw [Int.toNat_natCast] at hs
      obtain ⟨m', hm'⟩ : ∃ m', lcmTo l (k + 1) = m' := ⟨_, rfl⟩
      have hcase : (1000000 < m' ∧ (1000000 : Int) < m') ∨ (m' ≤ 1000000 ∧ (m' : Int) ≤ 1000000) := by omega
      have hk1 : k + 1 ≤ l.length := by omega
      have hno : 1000000 < m' → ¬ lcmA l ≤ 1000000 := fun h => lcmTo_no (l := l) (fun x hx => (HV.out x hx).1) (k := k + 1) (by omega) (by rw [hm']; exact h)
      rw [hm'] at hs hle
      have hg := div_gcd_mul m ev
      rw [← hs] at hg
      obtain ⟨g, hg0⟩ : ∃ g, Nat.gcd m ev = g := ⟨_, rfl⟩
      rw [hg0] at HC
      have hgp : 0 < g := by rw [← hg0]; exact Nat.gcd_pos_of_pos_left _ (by omega)
      have hgl : g ≤ m := by rw [← hg0]; exact Nat.le_of_dvd (by omega) (Nat.gcd_dvd_left _ _)
      obtain ⟨q, hq⟩ : ∃ q, m / g = q := ⟨_, rfl⟩
      rw [hg0, hq] at hg
      have hql : q ≤ m := by rw [← hq]; exact Nat.div_le_self _ _
      have hqe : q * ev ≤ 1000000 * 100 := Nat.mul_le_mul (by omega) (by omega)
      have HG0 := Lib.hid hg0
      have HM' := Lib.hid hm'
      have hk0 : (0 : Int) ≤ (k : Int) := Int.natCast_nonneg _
      have hk8 : (k : Int) < l.length := by omega
      have hv1 : IntKind.i64.wrap (ev : Int) = ev := IntWalk.i64_in _ ⟨by omega, by omega⟩
      have hv2 : wrap64 (ev : Int) = ev := IntWalk.wrap64_in _ ⟨by omega, by omega⟩
      have hgz : ((g : Int) == 0) = false := by simp; omega
      have hgz2 : ¬ (g : Int) = 0 := by omega
      have hm0' : (0 : Int) ≤ (m : Int) := Int.natCast_nonneg _
      have hd1 : (m : Int) / (g : Int) = (q : Int) := by rw [← hq]; simp
      have hd2 : Int.tdiv (m : Int) (g : Int) = (q : Int) := by rw [Int.tdiv_eq_ediv_of_nonneg hm0', hd1]
      have hq1 : IntKind.i64.wrap (q : Int) = q := IntWalk.i64_in _ ⟨by omega, by omega⟩
      have hq2 : wrap64 (q : Int) = q := IntWalk.wrap64_in _ ⟨by omega, by omega⟩
      obtain ⟨p, hpe⟩ : ∃ p : Int, (m' : Int) = p := ⟨_, rfl⟩
      have hp : (q : Int) * (ev : Int) = p := by rw [← hpe, ← hg]; simp
      have hp1 : IntKind.i64.wrap p = p := IntWalk.i64_in _ ⟨by omega, by omega⟩
      have hp2 : wrap64 p = p := IntWalk.wrap64_in _ ⟨by omega, by omega⟩
      rw [hpe] at hcase
      have HPE := Lib.hid hpe
      clear hx hrow hm0 hm' hs hle hq hg hev HG0 hg0 hpe
      go_wp2_with fail
      refine (HC.out _).mono ?_
      rintro e w1 ⟨rfl, hb1⟩
      have HB1 : Hid (Below w.heap.size w w1) := HB.out.trans (hb1.mono HB.out.size)
      clear hb1 e1 h18 h19 HC
      rcases hcase with ⟨hbig, hbig'⟩ | ⟨hbig, hbig'⟩
      · have hn1 : Hid (evN l = 0) := by show evN l = 0; rw [evN, if_neg (hno hbig)]
        have hn2 : Hid (evB l = false) := decide_eq_false (hno hbig)
        clear hno
        go_wp2
        go_ret2
        exact ⟨by (rw [hn1.out, hn2.out]; first | done | rfl), HB1.out⟩
      · clear hno
        have HBig := Lib.hid hbig
        clear hbig
        go_wp2
        go_roundw
        case rel => exact ⟨k + 1, hk1, by clear hd1 hd2 hp hqe; go_num, by rw [HM'.out, HPE.out], by rw [HM'.out]; exact HBig.out, HB1.out⟩
        case measure => clear hd1 hd2 hp hqe; simp [intOf]; omega
    · obtain rfl : k = l.length := by omega
      have hn1 : Hid (evN l = lcmTo l l.length) := by show evN l = _; rw [evN, if_pos (by exact hm)]; rfl
      have hn2 : Hid (evB l = true) := decide_eq_true hm
      go_wp2
      go_ret2
      exact ⟨by (rw [hn1.out, hn2.out]; first | done | rfl), HB.out⟩
end Go.Proofs.YtcalooahafgfbaaDoor
