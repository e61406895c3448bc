/-
  Rows of numbers; the contracts of toInt64S, of eqInt64S at equal lists, and of the model's l00Has. Condition: a list of at most 1048576 numbers.
-/
import Derived.Test.YtkehmelcecifdaaDoorMg1
import Derived.OwnWalk
import Derived.Laws.AppendOwn
import Derived.Laws.MakeOwn
import Derived.Maps.AppendAt
import Derived.Test.YtkehmelcecifdaaDoorMg3
import Derived.Deep.RegionHeld3
import Derived.WalkSmall
namespace Go.Proofs.YtkehmelcecifdaaDoor
open Go.ChangeShapes Go.WideShapes Go.ChangeAt Go.RowKit

theorem Tryd.info64 : (Tryd.prog.info? 2).map (fun i => (i.zero, i.size, i.bytes)) = some (some (.int .i64 0), 1, 8) := by kernel_rfl
end Go.Proofs.YtkehmelcecifdaaDoor

namespace Go.Proofs.YtkehmelcecifdaaDoor
open Go.ChangeShapes Go.WideShapes Go.ChangeAt Go.RowKit Go.Deep

def wfI (n : Int) : Prop := -9223372036854775808 ≤ n ∧ n ≤ 9223372036854775807
def icells (n : Int) : List Value := [.int .i64 n]
theorem icells_length (n : Int) : (icells n).length = 1 := rfl
theorem icells_of (cs : List Value) (h : FitsL [.i64] cs) : ∃ b, wfI b ∧ cs = icells b := by
  match cs, h.length, h with
  | [c0], _, h =>
    obtain ⟨⟨n, rfl, hn⟩, _⟩ := h
    exact ⟨n, bounds_i64 hn, rfl⟩
theorem Tryd.flat64 : FlatT Tryd.prog 2 [.i64] := .int Tryd.underlying2
theorem Tryd.cells64 : Tryd.prog.cellsOf 2 = 1 := by kernel_rfl
theorem rowI {w : World} {b o k : Nat} {n : Int} (h : w.rangeAt b (o + k * 1) (icells n)) : w.cell? ⟨b, o + k, none⟩ = some (.int .i64 n) := by
  have := h 0 (.int .i64 n) rfl
  simpa using this
theorem Rd.take {T : Type} {w : World} {B : Nat} {cells : T → List Value} {A : Option Addr} {xs : List T} (h : Rd w B cells A xs) (k : Nat) : Rd w B cells A (xs.take k) := fun hn => by
  obtain ⟨b, o, e, hb, hr⟩ := h (by rw [List.length_take] at hn; omega)
  refine ⟨b, o, e, hb, fun j v hv => hr j v ?_⟩
  have hj := (List.getElem?_eq_some_iff.1 hv).1
  have e2 : xs.flatMap cells = (xs.take k).flatMap cells ++ (xs.drop k).flatMap cells := by rw [← List.flatMap_append, List.take_append_drop]
  rw [e2, List.getElem?_append_left hj, hv]

/-- What stands between two rounds of toInt64S. -/
def TI (xs : List Int) (w : World) (k : Nat) (X : List Int) (wr : World) : Prop :=
  X.length = xs.length ∧ (∀ j, j < k → X[j]? = xs[j]?) ∧ Rs wr w.heap.size 2 icells X ∧ Below w.heap.size w wr
theorem TI.step {xs : List Int} {w wr : World} {k : Nat} {X : List Int} {x : Int} (h : TI xs w k X wr) (hk : xs[k]? = some x) :
    TI xs w (k + 1) (X.set k x) (wr.setCell ⟨w.heap.size, k, none⟩ (.int .i64 x)) := by
  obtain ⟨hX, hj, hO, hB⟩ := h
  have hkl := (List.getElem?_eq_some_iff.1 hk).1
  refine ⟨by simp [hX], fun j hjk => ?_, ?_, hB.setCell (p := ⟨w.heap.size, k, none⟩) (Nat.le_refl _) _⟩
  · by_cases e : j = k
    · subst e
      rw [List.getElem?_set_self (by omega), hk]
    · rw [List.getElem?_set_ne (by omega)]
      exact hj j (by omega)
  · have := Rs.set_ icells_length hO (k := k) (by omega) x
    rw [Nat.mul_one] at this
    exact this
theorem TI.same {xs : List Int} {w : World} {X : List Int} {wr : World} (h : TI xs w xs.length X wr) : X = xs := by
  apply List.ext_getElem?
  intro j
  by_cases hj : j < xs.length
  · exact h.2.1 j hj
  · rw [List.getElem?_eq_none (by rw [h.1]; omega), List.getElem?_eq_none (by omega)]

set_option maxRecDepth 100000 in
set_option maxHeartbeats 1000000 in
theorem eqInt64S_same (xs : List Int) (A B : Option Addr) (c d : Nat) (w : World) (hl : xs.length ≤ 4611686018427387904) (hA : Rd w w.heap.size icells A xs) (hB : Rd w w.heap.size icells B xs) :
    Calls Tryd.prog 13 #[.slice A xs.length c, .slice B xs.length d] w fun e w' => e = .returned (.bool true) ∧ Below w.heap.size w w' := by
  have HA := Lib.hid hA
  have HB := Lib.hid hB
  clear hA hB
  go_enter Tryd.func13, Tryd.ntmps13
  go_wp2_with fail
  go_loopw [5] (fun i wr => ∃ (k : Nat), k ≤ xs.length ∧ i = .int .i64 k ∧ Below w.heap.size w wr) (fun i _ => xs.length - (intOf i).toNat)
  case atStart => exact ⟨0, by omega, rfl, Below.refl _ _⟩
  case round =>
    obtain ⟨k, hk, rfl, hT⟩ := hrel
    have HT := Lib.hid hT
    clear hT
    by_cases hlt : k < xs.length
    · obtain ⟨x, hx⟩ : ∃ x, xs[k]? = some x := ⟨_, List.getElem?_eq_getElem hlt⟩
      obtain ⟨g, o, rfl, hg, hc⟩ := (HA.out.below (Nat.le_refl _) HT.out).at_ icells_length hx
      obtain ⟨g', o', rfl, hg', hc'⟩ := (HB.out.below (Nat.le_refl _) HT.out).at_ icells_length hx
      have e1 := rowI hc
      have e2 := rowI hc'
      have hk0 : (0 : Int) ≤ (k : Int) := Int.natCast_nonneg _
      have hk8 : (k : Int) < xs.length := by omega
      clear hx hc hc'
      go_wp2_with fail
      go_region_held3 (fun w' => w'.cell? ⟨g, o + k, none⟩ = some (.int .i64 x) ∧ w'.cell? ⟨g', o' + k, none⟩ = some (.int .i64 x)) (go_keep) (fail)
      go_wp2
      go_roundw
      case rel => exact ⟨k + 1, by omega, by go_num, HT.out.drew⟩
      case measure => simp [intOf]; omega
    · obtain rfl : k = xs.length := by omega
      go_wp2
      go_ret
      exact ⟨rfl, HT.out⟩

set_option maxRecDepth 100000 in
set_option maxHeartbeats 1000000 in
theorem l00Has_any (xs : List Int) (n : Int) (A : Option Addr) (c : Nat) (w : World) (hl : xs.length ≤ 1048576) (hr : Rd w w.heap.size icells A xs) :
    Calls Tryd.prog 62 #[.slice A xs.length c, .int .i64 n] w fun e w' => e = .returned (.bool (decide (n ∈ xs))) ∧ w = w' := by
  have HR := Lib.hid hr
  clear hr
  go_enter Tryd.func62, Tryd.ntmps62
  go_wp2_with fail
  go_loop [5] (fun i => ∃ (k : Nat), k ≤ xs.length ∧ i = .int .i64 k ∧ n ∉ xs.take k) (fun i => xs.length - (intOf i).toNat)
  case atStart => exact ⟨0, by omega, rfl, by simp⟩
  case round =>
    obtain ⟨k, hk, rfl, hT⟩ := hrel
    have HT := Lib.hid hT
    clear hT
    by_cases hlt : k < xs.length
    · obtain ⟨x, hx⟩ : ∃ x, xs[k]? = some x := ⟨_, List.getElem?_eq_getElem hlt⟩
      obtain ⟨g, o, rfl, hg, hc⟩ := HR.out.at_ icells_length hx
      have e1 := rowI hc
      have HX := Lib.hid hx
      have hk0 : (0 : Int) ≤ (k : Int) := Int.natCast_nonneg _
      have hk8 : (k : Int) < xs.length := by omega
      clear hx hc
      by_cases he : x = n
      · subst he
        go_wp2
        go_ret
        exact ⟨ret_bool (by simp [List.mem_of_getElem? HX.out]), rfl⟩
      · have he' : (x == n) = false := by simpa using he
        go_wp2
        go_round
        case rel =>
          refine ⟨k + 1, by omega, by go_num, ?_⟩
          obtain ⟨h1, h2⟩ := List.getElem?_eq_some_iff.1 HX.out
          rw [List.take_succ_eq_append_getElem h1, h2, List.mem_append, List.mem_singleton]
          rintro (h | h)
          · exact HT.out h
          · exact he h.symm
        case measure => simp [intOf]; omega
    · obtain rfl : k = xs.length := by omega
      go_wp2
      go_ret
      exact ⟨ret_bool (by have := HT.out; rw [List.take_length] at this; simp [this]), rfl⟩
end Go.Proofs.YtkehmelcecifdaaDoor
