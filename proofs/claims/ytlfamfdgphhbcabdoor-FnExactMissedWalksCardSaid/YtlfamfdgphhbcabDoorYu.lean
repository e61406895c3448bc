/-
  Days on which a walker comes; the visits of a walk: the model's and the program's small functions. Condition: a valid walker, a day from -1 to 20000000; the program's walksOf tells a walker, its days and its visits.
-/
import Derived.Test.YtlfamfdgphhbcabDoorWk
namespace Go.Proofs.YtlfamfdgphhbcabDoor
open Go.ChangeShapes Go.WideShapes Go.ChangeAt Go.RowKit Go.Deep

/-- A number that one can reckon with as days. -/
def dayB (d : Int) : Prop := -1 ≤ d ∧ d ≤ 20000000
theorem sub_i64 {a b : Int} (ha : -100000000 ≤ a ∧ a ≤ 100000000) (hb : -100000000 ≤ b ∧ b ≤ 100000000) : IntKind.i64.wrap (a - b) = a - b ∧ wrap64 (a - b) = a - b :=
  ⟨IntWalk.i64_in _ ⟨by omega, by omega⟩, IntWalk.wrap64_in _ ⟨by omega, by omega⟩⟩

theorem l05Day_any (d : Int) (w : World) : Calls Tryd.prog 42 #[.int .i64 d] w fun e w' => e = .returned (.bool (inS d)) ∧ w = w' := by
  go_enter Tryd.func42, Tryd.ntmps42
  go_wp2_with fail
  refine (l00In_any _ _ _ _).mono ?_
  rintro e w1 ⟨rfl, rfl⟩
  go_wp2
  go_ret
  exact ⟨rfl, rfl⟩
set_option maxHeartbeats 1000000 in
theorem l05On_any (x : Wal) (hf : 0 ≤ x.fi ∧ x.fi ≤ 10000) (he : 1 ≤ x.ev ∧ x.ev ≤ 100) (d : Int) (hd : dayB d) (w : World) :
    Calls Tryd.prog 46 #[.agg (vcells x).toArray, .int .i64 d] w fun e w' => e = .returned (.bool (onD x d)) ∧ Below w.heap.size w w' := by
  obtain ⟨fi, ev, st, sp, co, tu⟩ := x
  obtain ⟨f0, f1⟩ := hf
  obtain ⟨e0, e1⟩ := he
  obtain ⟨d0, d1⟩ := hd
  simp only at f0 f1 e0 e1
  show Calls Tryd.prog 46 #[.agg #[.int .i16 fi, .int .i16 ev, .int .i16 st, .int .i16 sp, .int .i16 co, .int .i8 tu], .int .i64 d] w fun e w' => e = .returned (.bool (onD ⟨fi, ev, st, sp, co, tu⟩ d)) ∧ Below w.heap.size w w'
  obtain ⟨s1, s2⟩ := sub_i64 (a := d) (b := fi) ⟨by omega, by omega⟩ ⟨by omega, by omega⟩
  have hez : ¬ ev = 0 := by omega
  have hez2 : (ev == 0) = false := by simpa using hez
  by_cases hlt : d < fi
  · have h1 : d - fi < 0 := by omega
    have H : Hid (onD ⟨fi, ev, st, sp, co, tu⟩ d = false) := by
      show onD ⟨fi, ev, st, sp, co, tu⟩ d = false
      simp only [onD]; rw [decide_eq_false (by omega : ¬ fi ≤ d)]; rfl
    go_enter Tryd.func46, Tryd.ntmps46
    go_wp2
    go_ret
    exact ⟨by (rw [H.out]; first | done | rfl), (by repeat (first | exact Below.refl _ _ | refine Below.drew ?_ | refine Below.alloc ?_ (by simp <;> omega) _ | refine Below.setCell ?_ (by simp <;> omega) _))⟩
  · have h1 : 0 ≤ d - fi := by omega
    obtain ⟨r, hr⟩ : ∃ r, (d - fi) % ev = r := ⟨_, rfl⟩
    have hr0 : 0 ≤ r := by rw [← hr]; exact Int.emod_nonneg _ hez
    have hr1 : r < ev := by rw [← hr]; exact Int.emod_lt_of_pos _ (by omega)
    have hr2 : Int.tmod (d - fi) ev = r := by rw [Int.tmod_eq_emod_of_nonneg h1, hr]
    have w1 : IntKind.i64.wrap r = r := IntWalk.i64_in _ ⟨by omega, by omega⟩
    have w2 : wrap64 r = r := IntWalk.wrap64_in _ ⟨by omega, by omega⟩
    have H : Hid (onD ⟨fi, ev, st, sp, co, tu⟩ d = decide (r = 0)) := by
      show onD ⟨fi, ev, st, sp, co, tu⟩ d = _
      simp only [onD, hr]; rw [decide_eq_true (by omega : fi ≤ d)]; rfl
    go_enter Tryd.func46, Tryd.ntmps46
    go_wp2
    go_ret
    exact ⟨by (rw [H.out]; first | done | rfl | (congr 1; rw [Bool.eq_iff_iff]; simp)), (by repeat (first | exact Below.refl _ _ | refine Below.drew ?_ | refine Below.alloc ?_ (by simp <;> omega) _ | refine Below.setCell ?_ (by simp <;> omega) _))⟩
set_option maxHeartbeats 1000000 in
theorem l05Until_any (x : Wal) (hf : 0 ≤ x.fi ∧ x.fi ≤ 10000) (he : 1 ≤ x.ev ∧ x.ev ≤ 100) (d : Int) (hd : dayB d) (w : World) :
    Calls Tryd.prog 74 #[.agg (vcells x).toArray, .int .i64 d] w fun e w' => e = .returned (.int .i64 (unD x d)) ∧ Below w.heap.size w w' := by
  obtain ⟨fi, ev, st, sp, co, tu⟩ := x
  obtain ⟨f0, f1⟩ := hf
  obtain ⟨e0, e1⟩ := he
  obtain ⟨d0, d1⟩ := hd
  simp only at f0 f1 e0 e1
  show Calls Tryd.prog 74 #[.agg #[.int .i16 fi, .int .i16 ev, .int .i16 st, .int .i16 sp, .int .i16 co, .int .i8 tu], .int .i64 d] w fun e w' => e = .returned (.int .i64 (unD ⟨fi, ev, st, sp, co, tu⟩ d)) ∧ Below w.heap.size w w'
  obtain ⟨s1, s2⟩ := sub_i64 (a := d) (b := fi) ⟨by omega, by omega⟩ ⟨by omega, by omega⟩
  have hez : ¬ ev = 0 := by omega
  have hez2 : (ev == 0) = false := by simpa using hez
  by_cases hlt : d < fi
  · have h1 : d - fi < 0 := by omega
    have H : Hid (unD ⟨fi, ev, st, sp, co, tu⟩ d = 0) := by
      show unD ⟨fi, ev, st, sp, co, tu⟩ d = 0
      simp only [unD]; rw [if_pos hlt]
    go_enter Tryd.func74, Tryd.ntmps74
    go_wp2
    go_ret
    exact ⟨by (rw [H.out]; first | done | rfl), (by repeat (first | exact Below.refl _ _ | refine Below.drew ?_ | refine Below.alloc ?_ (by simp <;> omega) _ | refine Below.setCell ?_ (by simp <;> omega) _))⟩
  · have h1 : 0 ≤ d - fi := by omega
    obtain ⟨r, hr⟩ : ∃ r, (d - fi) / ev = r := ⟨_, rfl⟩
    have hr0 : 0 ≤ r := by rw [← hr]; exact Int.ediv_nonneg h1 (by omega)
    have hr1 : r ≤ d - fi := by rw [← hr]; exact Int.ediv_le_self _ h1
    have hr2 : Int.tdiv (d - fi) ev = r := by rw [Int.tdiv_eq_ediv_of_nonneg h1, hr]
    have w1 : IntKind.i64.wrap r = r := IntWalk.i64_in _ ⟨by omega, by omega⟩
    have w2 : wrap64 r = r := IntWalk.wrap64_in _ ⟨by omega, by omega⟩
    have w3 : IntKind.i64.wrap (r + 1) = r + 1 := IntWalk.i64_in _ ⟨by omega, by omega⟩
    have w4 : wrap64 (r + 1) = r + 1 := IntWalk.wrap64_in _ ⟨by omega, by omega⟩
    have H : Hid (unD ⟨fi, ev, st, sp, co, tu⟩ d = r + 1) := by
      show unD ⟨fi, ev, st, sp, co, tu⟩ d = _
      simp only [unD]; rw [if_neg hlt, hr]
    go_enter Tryd.func74, Tryd.ntmps74
    go_wp2
    go_ret
    exact ⟨by (rw [H.out]; first | done | rfl), (by repeat (first | exact Below.refl _ _ | refine Below.drew ?_ | refine Below.alloc ?_ (by simp <;> omega) _ | refine Below.setCell ?_ (by simp <;> omega) _))⟩
set_option maxHeartbeats 1000000 in
theorem until_any (fi ev : Int) (hf : 0 ≤ fi ∧ fi ≤ 10000) (he : 1 ≤ ev ∧ ev ≤ 100) (d : Int) (hd : dayB d) (w : World) :
    Calls Tryd.prog 84 #[.agg #[.int .i64 fi, .int .i64 ev], .int .i64 d] w fun e w' => e = .returned (.int .i64 (if d < fi then 0 else (d - fi) / ev + 1)) ∧ Below w.heap.size w w' := by
  obtain ⟨f0, f1⟩ := hf
  obtain ⟨e0, e1⟩ := he
  obtain ⟨d0, d1⟩ := hd
  obtain ⟨s1, s2⟩ := sub_i64 (a := d) (b := fi) ⟨by omega, by omega⟩ ⟨by omega, by omega⟩
  have hez : ¬ ev = 0 := by omega
  have hez2 : (ev == 0) = false := by simpa using hez
  obtain ⟨u, hu⟩ : ∃ u : Int, (if d < fi then 0 else (d - fi) / ev + 1) = u := ⟨_, rfl⟩
  rw [hu]
  by_cases hlt : d < fi
  · rw [if_pos hlt] at hu
    have H := Lib.hid hu
    clear hu
    go_enter Tryd.func84, Tryd.ntmps84
    go_wp2
    go_ret
    exact ⟨by (rw [← H.out]; first | done | rfl), (by repeat (first | exact Below.refl _ _ | refine Below.drew ?_ | refine Below.alloc ?_ (by simp <;> omega) _ | refine Below.setCell ?_ (by simp <;> omega) _))⟩
  · rw [if_neg hlt] at hu
    have h1 : 0 ≤ d - fi := by omega
    have hlt' : fi ≤ d := by omega
    obtain ⟨r, hr⟩ : ∃ r, (d - fi) / ev = r := ⟨_, rfl⟩
    have hr0 : 0 ≤ r := by rw [← hr]; exact Int.ediv_nonneg h1 (by omega)
    have hr1 : r ≤ d - fi := by rw [← hr]; exact Int.ediv_le_self _ h1
    have hr2 : Int.tdiv (d - fi) ev = r := by rw [Int.tdiv_eq_ediv_of_nonneg h1, hr]
    have w1 : IntKind.i64.wrap r = r := IntWalk.i64_in _ ⟨by omega, by omega⟩
    have w2 : wrap64 r = r := IntWalk.wrap64_in _ ⟨by omega, by omega⟩
    have w3 : IntKind.i64.wrap (r + 1) = r + 1 := IntWalk.i64_in _ ⟨by omega, by omega⟩
    have w4 : wrap64 (r + 1) = r + 1 := IntWalk.wrap64_in _ ⟨by omega, by omega⟩
    rw [hr] at hu
    have H := Lib.hid hu
    clear hu
    go_enter Tryd.func84, Tryd.ntmps84
    go_wp2
    go_ret
    exact ⟨by (rw [← H.out]; first | done | rfl), (by repeat (first | exact Below.refl _ _ | refine Below.drew ?_ | refine Below.alloc ?_ (by simp <;> omega) _ | refine Below.setCell ?_ (by simp <;> omega) _))⟩
end Go.Proofs.YtlfamfdgphhbcabDoor
