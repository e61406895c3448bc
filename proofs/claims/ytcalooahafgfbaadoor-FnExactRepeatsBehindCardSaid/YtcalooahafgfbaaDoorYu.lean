/-
  Days on which a walker comes; the visits of a walk: the model's and the program's small functions. Condition: a valid walker, a day from -1 to 20000000; the program's walksOf tells a walker, its days and its visits.
-/
import Derived.Test.YtcalooahafgfbaaDoorWk
namespace Go.Proofs.YtcalooahafgfbaaDoor
open Go.ChangeShapes Go.WideShapes Go.ChangeAt Go.RowKit Go.Deep

/-- A number that one can reckon with as days. -/
def dayB (d : Int) : Prop := -1 ≤ d ∧ d ≤ 20000000
theorem sub_i64 {a b : Int} (ha : -100000000 ≤ a ∧ a ≤ 100000000) (hb : -100000000 ≤ b ∧ b ≤ 100000000) : IntKind.i64.wrap (a - b) = a - b ∧ wrap64 (a - b) = a - b :=
  ⟨IntWalk.i64_in _ ⟨by omega, by omega⟩, IntWalk.wrap64_in _ ⟨by omega, by omega⟩⟩

set_option maxHeartbeats 1000000 in
theorem until_any (fi ev : Int) (hf : 0 ≤ fi ∧ fi ≤ 10000) (he : 1 ≤ ev ∧ ev ≤ 100) (d : Int) (hd : dayB d) (w : World) :
    Calls Tryd.prog 32 #[.agg #[.int .i64 fi, .int .i64 ev], .int .i64 d] w fun e w' => e = .returned (.int .i64 (if d < fi then 0 else (d - fi) / ev + 1)) ∧ Below w.heap.size w w' := by
  obtain ⟨f0, f1⟩ := hf
  obtain ⟨e0, e1⟩ := he
  obtain ⟨d0, d1⟩ := hd
  obtain ⟨s1, s2⟩ := sub_i64 (a := d) (b := fi) ⟨by omega, by omega⟩ ⟨by omega, by omega⟩
  have hez : ¬ ev = 0 := by omega
  have hez2 : (ev == 0) = false := by simpa using hez
  obtain ⟨u, hu⟩ : ∃ u : Int, (if d < fi then 0 else (d - fi) / ev + 1) = u := ⟨_, rfl⟩
  rw [hu]
  by_cases hlt : d < fi
  · rw [if_pos hlt] at hu
    have H := Lib.hid hu
    clear hu
    go_enter Tryd.func32, Tryd.ntmps32
    go_wp2
    go_ret
    exact ⟨by (rw [← H.out]; first | done | rfl), (by repeat (first | exact Below.refl _ _ | refine Below.drew ?_ | refine Below.alloc ?_ (by simp <;> omega) _ | refine Below.setCell ?_ (by simp <;> omega) _))⟩
  · rw [if_neg hlt] at hu
    have h1 : 0 ≤ d - fi := by omega
    have hlt' : fi ≤ d := by omega
    obtain ⟨r, hr⟩ : ∃ r, (d - fi) / ev = r := ⟨_, rfl⟩
    have hr0 : 0 ≤ r := by rw [← hr]; exact Int.ediv_nonneg h1 (by omega)
    have hr1 : r ≤ d - fi := by rw [← hr]; exact Int.ediv_le_self _ h1
    have hr2 : Int.tdiv (d - fi) ev = r := by rw [Int.tdiv_eq_ediv_of_nonneg h1, hr]
    have w1 : IntKind.i64.wrap r = r := IntWalk.i64_in _ ⟨by omega, by omega⟩
    have w2 : wrap64 r = r := IntWalk.wrap64_in _ ⟨by omega, by omega⟩
    have w3 : IntKind.i64.wrap (r + 1) = r + 1 := IntWalk.i64_in _ ⟨by omega, by omega⟩
    have w4 : wrap64 (r + 1) = r + 1 := IntWalk.wrap64_in _ ⟨by omega, by omega⟩
    rw [hr] at hu
    have H := Lib.hid hu
    clear hu
    go_enter Tryd.func32, Tryd.ntmps32
    go_wp2
    go_ret
    exact ⟨by (rw [← H.out]; first | done | rfl), (by repeat (first | exact Below.refl _ _ | refine Below.drew ?_ | refine Below.alloc ?_ (by simp <;> omega) _ | refine Below.setCell ?_ (by simp <;> omega) _))⟩
end Go.Proofs.YtcalooahafgfbaaDoor
