/-
  Meetings: the program's meetingDay. Condition: valid walkers, a day from 0 to 10000; the sentinel errors lie as the row lists them.
-/
import Derived.Test.YtlfamfdgphhbcaaDoorYk2
namespace Go.Proofs.YtlfamfdgphhbcaaDoor
open Go.ChangeShapes Go.WideShapes Go.ChangeAt Go.RowKit Go.Deep

def mdV (o : Option Int) : Int := o.getD 0
def mdE (o : Option Int) : Option Nat := match o with | some _ => none | none => some 4
theorem mdN_in {a b : Wal} {f : Int} (ha : 0 ≤ a.fi ∧ a.fi ≤ 10000) (ha2 : 1 ≤ a.ev ∧ a.ev ≤ 100) (hb : 0 ≤ b.fi ∧ b.fi ≤ 10000) (hf : 0 ≤ f ∧ f ≤ 10000) : 0 ≤ mdN a b f ∧ mdN a b f ≤ 10100 := by
  obtain ⟨h1, h2, -, h4⟩ := mdN_facts (b := b) (f := f) ha2.1
  have h3 : mdF a b f ≤ 10000 := by unfold mdF; (repeat' split) <;> omega
  omega
set_option maxHeartbeats 4000000 in
theorem meetingDay_any (a b : Wal) (ha : 0 ≤ a.fi ∧ a.fi ≤ 10000) (ha2 : 1 ≤ a.ev ∧ a.ev ≤ 100) (hb : 0 ≤ b.fi ∧ b.fi ≤ 10000) (hb2 : 1 ≤ b.ev ∧ b.ev ≤ 100) (f : Int) (hf : 0 ≤ f ∧ f ≤ 10000) (ad : Nat → Addr) (w : World) (hE : EW 7 w ad) :
    Calls Tryd.prog 31 #[.agg #[.int .i64 a.fi, .int .i64 a.ev], .agg #[.int .i64 b.fi, .int .i64 b.ev], .int .i64 f] w fun e w' => e = .returned (.tuple #[.int .i64 (mdV (mdO a b f)), erO ad (mdE (mdO a b f))]) ∧ Below w.heap.size w w' := by
  have HE := Lib.hid hE
  clear hE
  have hNi := mdN_in ha ha2 hb hf
  have hnx := daysNext_any a.fi a.ev ha ha2 (if f < b.fi then b.fi else f) ⟨by split <;> omega, by split <;> omega⟩
  rw [show a.fi + (if (if f < b.fi then b.fi else f) - 1 < a.fi then 0 else ((if f < b.fi then b.fi else f) - 1 - a.fi) / a.ev + 1) * a.ev = mdN a b f from rfl] at hnx
  have hin : ∀ d w, dayB d → Calls Tryd.prog 68 #[.agg #[.int .i64 b.fi, .int .i64 b.ev], .int .i64 d] w fun e w' => e = .returned (.bool (onD b d)) ∧ Below w.heap.size w w' := fun d w hd => include_any b.fi b.ev hb hb2 d hd w
  have hsome := fun k h0 h1 h2 => md_some (a := a) (b := b) (f := f) (k := k) ha2.1 hb2.1 h0 h1 h2
  have hnone := md_none (a := a) (b := b) (f := f) ha2.1 hb2.1
  obtain ⟨n0, hn0⟩ : ∃ n, mdN a b f = n := ⟨_, rfl⟩
  rw [hn0] at hNi hnx hnone
  simp only [hn0] at hsome
  have HNX := Lib.hid hnx
  have HIN := Lib.hid hin
  have HSO := Lib.hid hsome
  have HNO := Lib.hid hnone
  clear hnx hin hsome hnone hn0
  obtain ⟨afi, hafi⟩ : ∃ x, a.fi = x := ⟨_, rfl⟩
  obtain ⟨aev, haev⟩ : ∃ x, a.ev = x := ⟨_, rfl⟩
  obtain ⟨bfi, hbfi⟩ : ∃ x, b.fi = x := ⟨_, rfl⟩
  obtain ⟨bev, hbev⟩ : ∃ x, b.ev = x := ⟨_, rfl⟩
  rw [hafi, haev, hbfi] at HNX
  rw [hbfi, hbev] at HIN
  simp only [haev, hbev] at HSO
  rw [haev, hbev] at HNO
  rw [hafi] at ha
  rw [haev] at ha2
  rw [hbfi] at hb
  rw [hbev] at hb2
  rw [hafi, haev, hbfi, hbev]
  clear hafi haev hbfi hbev
  obtain ⟨f0, f1⟩ := hf
  obtain ⟨b0, b1⟩ := hb2
  obtain ⟨c0, c1⟩ := hb
  obtain ⟨m, hm⟩ : ∃ m : Int, (if f < bfi then bfi else f) = m := ⟨_, rfl⟩
  rw [hm] at HNX
  go_enter Tryd.func31, Tryd.ntmps31
  by_cases hlt : f < bfi
  all_goals (first | rw [if_pos hlt] at hm | rw [if_neg hlt] at hm)
  all_goals (subst hm)
  all_goals
    go_wp2_with fail
    refine (HNX.out _).mono ?_
    rintro e w1 ⟨rfl, hb⟩
    have a0 : w1.cell? ⟨w.heap.size, 0, none⟩ = some (.int .i64 afi) := (hb.cell (p := ⟨w.heap.size, 0, none⟩) (by simp; try omega)).trans (by simp)
    have a1 : w1.cell? ⟨w.heap.size, 1, none⟩ = some (.int .i64 aev) := (hb.cell (p := ⟨w.heap.size, 1, none⟩) (by simp; try omega)).trans (by simp)
    have a2 : w1.cell? ⟨w.heap.size + 1, 0, none⟩ = some (.int .i64 bfi) := (hb.cell (p := ⟨w.heap.size + 1, 0, none⟩) (by simp)).trans (by simp)
    have a3 : w1.cell? ⟨w.heap.size + 1, 1, none⟩ = some (.int .i64 bev) := (hb.cell (p := ⟨w.heap.size + 1, 1, none⟩) (by simp)).trans (by simp)
    have hsz : w.heap.size + 1 < w1.heap.size := by have := hb.size; simp at this; omega
    have hW : Below w.heap.size w ((w.alloc (.cells #[.int .i64 afi, .int .i64 aev] 67)).alloc (.cells #[.int .i64 bfi, .int .i64 bev] 67)) := (by repeat (first | exact Below.refl _ _ | refine Below.drew ?_ | refine Below.alloc ?_ (by simp <;> omega) _ | refine Below.setCell ?_ (by simp <;> omega) _))
    have HB1 : Hid (Below w.heap.size w w1) := hW.trans (hb.mono hW.size)
    have HA := Lib.hid (And.intro a0 (And.intro a1 (And.intro a2 a3)))
    clear hb hW
    go_wp2_with fail
    go_loopw [8, 17] (fun d i wr => ∃ (k : Nat), (k : Int) ≤ bev ∧ i = .int .i64 k ∧ d = .int .i64 (n0 + k * aev) ∧ (∀ j : Nat, j < k → onD b (n0 + j * aev) = false) ∧ Below w1.heap.size w1 wr)
      (fun _ i _ => (bev - intOf i).toNat)
    case atStart => exact ⟨0, by omega, rfl, by simp, fun j hj => by omega, Below.refl _ _⟩
    case round =>
      clear a0 a1 a2 a3
      obtain ⟨k, hk, rfl, rfl, hno, hB⟩ := hrel
      obtain ⟨a0, a1, a2, a3⟩ := HA.out
      have HN2 := Lib.hid hno
      have c0' : wr.cell? ⟨w.heap.size, 0, none⟩ = some (.int .i64 afi) := (hB.cell (p := ⟨w.heap.size, 0, none⟩) (by show w.heap.size < _; omega)).trans a0
      have c1' : wr.cell? ⟨w.heap.size, 1, none⟩ = some (.int .i64 aev) := (hB.cell (p := ⟨w.heap.size, 1, none⟩) (by show w.heap.size < _; omega)).trans a1
      have c2' : wr.cell? ⟨w.heap.size + 1, 0, none⟩ = some (.int .i64 bfi) := (hB.cell (p := ⟨w.heap.size + 1, 0, none⟩) (by show w.heap.size + 1 < _; omega)).trans a2
      have c3' : wr.cell? ⟨w.heap.size + 1, 1, none⟩ = some (.int .i64 bev) := (hB.cell (p := ⟨w.heap.size + 1, 1, none⟩) (by show w.heap.size + 1 < _; omega)).trans a3
      have HB := Lib.hid hB
      clear hB hno a0 a1 a2 a3
      obtain ⟨p0, p1⟩ := mul_in (⟨Int.natCast_nonneg k, by omega⟩ : (0 : Int) ≤ k ∧ (k : Int) ≤ 100) (⟨by omega, ha2.2⟩ : 0 ≤ aev ∧ aev ≤ 100)
      obtain ⟨d, hd⟩ : ∃ d : Int, n0 + k * aev = d := ⟨_, rfl⟩
      have hd0 : 0 ≤ d := by omega
      have hd1 : d ≤ 30000 := by omega
      have HD := Lib.hid hd
      rw [hd]
      clear hd p0 p1
      have hk0 : (0 : Int) ≤ (k : Int) := Int.natCast_nonneg _
      by_cases hkb : (k : Int) < bev
      · go_wp2_with fail
        refine (HIN.out d _ ⟨by omega, by omega⟩).mono ?_
        rintro e w2 ⟨rfl, hb⟩
        have d0 : w2.cell? ⟨w.heap.size, 1, none⟩ = some (.int .i64 aev) := (hb.cell (p := ⟨w.heap.size, 1, none⟩) (by have := HB.out.size; show w.heap.size < _; omega)).trans c1'
        have HB2 : Hid (Below w1.heap.size w1 w2) := HB.out.trans (hb.mono HB.out.size)
        clear hb c0' c1' c2' c3'
        cases ho : onD b d
        · have HO := Lib.hid ho
          have u1 : IntKind.i64.wrap (d + aev) = d + aev := IntWalk.i64_in _ ⟨by omega, by omega⟩
          have u2 : wrap64 (d + aev) = d + aev := IntWalk.wrap64_in _ ⟨by omega, by omega⟩
          have u3 : IntKind.i64.wrap ((k : Int) + 1) = (k : Int) + 1 := IntWalk.i64_in _ ⟨by omega, by omega⟩
          have u4 : wrap64 ((k : Int) + 1) = (k : Int) + 1 := IntWalk.wrap64_in _ ⟨by omega, by omega⟩
          clear ho
          go_wp2
          go_roundw
          case rel =>
            clear u1 u2 u3 u4
            refine ⟨k + 1, by omega, by first | rfl | (congr 1; omega), by rw [show n0 + ((k + 1 : Nat) : Int) * aev = d + aev by (rw [← HD.out, Int.natCast_add, Int.add_mul]; omega)], fun j hj => ?_, HB2.out⟩
            by_cases e : j = k
            · subst e; rw [HD.out]; exact HO.out
            · exact HN2.out j (by omega)
          case measure => clear u1 u2 u3 u4; simp [intOf]; omega
        · have E : Hid (mdO a b f = some d) := by
            show _ = _
            rw [HSO.out k hkb HN2.out (by rw [HD.out]; exact ho), HD.out]
          clear ho
          go_wp2
          go_ret2
          exact ⟨by (rw [E.out]; first | done | rfl), HB1.out.trans (HB2.out.mono HB1.out.size)⟩
      · have E : Hid (mdO a b f = none) := HNO.out (fun j hj => HN2.out j (by omega))
        have HB2 : Hid (Below w.heap.size w wr) := HB1.out.trans (HB.out.mono HB1.out.size)
        have c1 : wr.cell? ⟨5, 0, none⟩ = some (.iface 197 (.pointer (some (ad 4)))) := (HE.out.below HB2.out (Nat.le_refl _)).cell 4 (by omega)
        go_wp2_with fail
        go_region
        go_wp2
        go_ret2
        exact ⟨by (rw [E.out]; first | done | rfl), by first | exact HB2.out | exact HB2.out.drew⟩
end Go.Proofs.YtlfamfdgphhbcaaDoor
