/-
  What is stored where: the contracts of spotAt and of ahead. Condition: the rack reads as lists of things that are stored.
-/
import Derived.Test.YtdgcgkeclcpafaaDoorRk
import Derived.WalkSmall
import Derived.Deep.RegionHeld3
namespace Go.Proofs.YtdgcgkeclcpafaaDoor
open Go.ChangeShapes Go.WideShapes Go.ChangeAt Go.RowKit Go.Deep

/-- A spot: a bottle, day, lane and index, and the lane's list. -/
def spC (k y d l i : Int) (a : Option Addr) (n c : Nat) : Array Value := #[.int .u8 k, .int .i16 y, .int .i64 d, .int .i64 l, .int .i64 i, .slice a n c]
set_option maxHeartbeats 1000000 in
theorem spotAt_any (A : Option Addr) (n c : Nat) (l : Nat) (i : Int) (k y d : Int) (a : Option Addr) (m c' : Nat) (w : World) (hd : -32768 ≤ d ∧ d ≤ 32767) (hl : l < n) (hn : n ≤ 1048576) (b o : Nat) (hA : A = some ⟨b, o, none⟩) (hb : b < w.heap.size) (hc : w.cell? ⟨b, o + l, none⟩ = some (.slice a m c')) :
    Calls Tryd.prog 87 #[.slice A n c, .int .i64 (l : Int), .int .i64 i, .agg #[.int .u8 k, .int .i16 y, .int .i16 d]] w fun e w' => e = .returned (.agg (spC k y d l i a m c')) ∧ Below w.heap.size w w' := by
  subst hA
  have hl0 : (0 : Int) ≤ (l : Int) := Int.natCast_nonneg _
  have hl1 : (l : Int) < n := by omega
  have hne : b ≠ w.heap.size := by omega
  have hw1 : IntKind.i64.wrap d = d := IntWalk.i64_in _ ⟨by omega, by omega⟩
  have hw2 : wrap64 d = d := IntWalk.wrap64_in _ ⟨by omega, by omega⟩
  go_enter Tryd.func87, Tryd.ntmps87
  go_wp2_with fail
  go_region
  go_wp2
  refine bodyPost_ret (v := .agg (spC k y d l i a m c')) (by simp [spC, results, Tryd.results87, go_sem]) rfl ⟨rfl, (by repeat (first | exact Below.refl _ _ | refine Below.drew ?_ | refine Below.alloc ?_ (by simp <;> omega) _ | refine Below.setCell ?_ (by simp <;> omega) _))⟩
theorem ahead_any (k y d l i : Int) (a : Option Addr) (m c' : Nat) (w : World) (hi : 0 ≤ i ∧ i ≤ 1048576) (hm : m ≤ 1048576) :
    Calls Tryd.prog 65 #[.agg (spC k y d l i a m c')] w fun e w' => e = .returned (.int .i64 ((m : Int) - 1 - i)) ∧ Below w.heap.size w w' := by
  have hm0 : (0 : Int) ≤ (m : Int) := Int.natCast_nonneg _
  have hw1 : IntKind.i64.wrap ((m : Int) - 1) = (m : Int) - 1 := IntWalk.i64_in _ ⟨by omega, by omega⟩
  have hw2 : wrap64 ((m : Int) - 1) = (m : Int) - 1 := IntWalk.wrap64_in _ ⟨by omega, by omega⟩
  have hw3 : IntKind.i64.wrap ((m : Int) - 1 - i) = (m : Int) - 1 - i := IntWalk.i64_in _ ⟨by omega, by omega⟩
  have hw4 : wrap64 ((m : Int) - 1 - i) = (m : Int) - 1 - i := IntWalk.wrap64_in _ ⟨by omega, by omega⟩
  unfold spC
  go_enter Tryd.func65, Tryd.ntmps65
  go_wp2
  go_ret
  exact ⟨rfl, (by repeat (first | exact Below.refl _ _ | refine Below.drew ?_ | refine Below.alloc ?_ (by simp <;> omega) _ | refine Below.setCell ?_ (by simp <;> omega) _))⟩
end Go.Proofs.YtdgcgkeclcpafaaDoor
