/-
  The contracts of szBottleS, toBottleS and of eqBottleS at equal arguments. Condition: a list of at most 1048576 bottles.
-/
import Derived.Test.YtdgcgkeclcpafaaDoorL
import Derived.Test.YtdgcgkeclcpafaaDoorW0
import Derived.Test.YtdgcgkeclcpafaaDoorI6
import Derived.Test.YtdgcgkeclcpafaaDoorFlb
import Derived.Deep.RegionHeld3
namespace Go.Proofs.YtdgcgkeclcpafaaDoor
open Go.ChangeShapes Go.WideShapes Go.ChangeAt Go.RowKit Go.Deep

theorem bcells_length (x : Bot) : (bcells x).length = 2 := rfl
theorem bcells_one (x : Bot) : (bcells x).toArray.all (·.oneCell') = true := all_one (by intro v hv; simp only [bcells, List.mem_cons, List.not_mem_nil, or_false] at hv; rcases hv with rfl | rfl <;> rfl)
theorem bcells_of (cs : List Value) (h : FitsL [.u8, .i16] cs) : ∃ b, wfB b ∧ cs = bcells b := by
  match cs, h.length, h with
  | [c0, c1], _, h =>
    obtain ⟨⟨k, rfl, hk⟩, ⟨y, rfl, hy⟩, _⟩ := h
    have hk := wf_u8 hk
    have hy := wf_i16 hy
    exact ⟨(k, y), ⟨hk.1, hk.2, hy.1, hy.2⟩, rfl⟩
theorem Tryd.infoBt : (Tryd.prog.info? 32).map (fun i => (i.zero, i.size, i.bytes)) = some (some (.agg #[.int .u8 0, .int .i16 0]), 2, 4) := by kernel_rfl
theorem Tryd.sizeBt : (Tryd.prog.info? 32).map (·.size) = some 2 := by kernel_rfl
theorem Tryd.flatBL : FlatT Tryd.prog 25 [.u8, .i16] :=
  flat_struct (fs := [_, _]) (kss := [[.u8], [.i16]]) Tryd.underlying25 (by kernel_rfl) ⟨by kernel_rfl, rfl, .int Tryd.underlying5, by kernel_rfl, rfl, .int Tryd.underlying23, trivial⟩
theorem Tryd.cellsBL : Tryd.prog.cellsOf 25 = 2 := by kernel_rfl
theorem Tryd.sizeBL : (Tryd.prog.info? 25).map (·.size) = some 2 := by kernel_rfl
theorem toBot_any (x : Bot) (w : World) : Calls Tryd.prog 10 #[.agg (bcells x).toArray] w fun e w' => e = .returned (.agg (bcells x).toArray) ∧ Below w.heap.size w w' := toBottle_any x.1 x.2 w
theorem eqBottle_same (k y : Int) (w : World) : Calls Tryd.prog 54 #[.agg #[.int .u8 k, .int .i16 y], .agg #[.int .u8 k, .int .i16 y]] w fun e w' => e = .returned (.bool true) ∧ Below w.heap.size w w' := by
  go_enter Tryd.func54, Tryd.ntmps54
  go_wp2
  go_ret
  exact ⟨rfl, (by repeat (first | exact Below.refl _ _ | refine Below.drew ?_ | refine Below.alloc ?_ (by simp <;> omega) _ | refine Below.setCell ?_ (by simp <;> omega) _))⟩
theorem eqBot_same (x : Bot) (w : World) : Calls Tryd.prog 54 #[.agg (bcells x).toArray, .agg (bcells x).toArray] w fun e w' => e = .returned (.bool true) ∧ Below w.heap.size w w' := eqBottle_same x.1 x.2 w

/-- What stands between two rounds of toBottleS. -/
def TBw (xs : List Bot) (w : World) (k : Nat) (X : List Bot) (wr : World) : Prop :=
  X.length = xs.length ∧ (∀ j, j < k → X[j]? = xs[j]?) ∧ Rs wr w.heap.size 32 bcells X ∧ Below w.heap.size w wr
theorem TBw.step {xs : List Bot} {w wr w1 : World} {k : Nat} {X : List Bot} {x : Bot} (h : TBw xs w k X wr) (hk : xs[k]? = some x) (hb : Below wr.heap.size wr w1) :
    TBw xs w (k + 1) (X.set k x) (w1.setCells w.heap.size (k * 2) (bcells x).toArray.toList) := by
  obtain ⟨hX, hj, hO, hB⟩ := h
  have hkl := (List.getElem?_eq_some_iff.1 hk).1
  refine ⟨by simp [hX], fun j hjk => ?_, ?_, Below.setCells (hB.trans (hb.mono hB.size)) _ _ _ (Nat.le_refl _)⟩
  · by_cases e : j = k
    · subst e
      rw [List.getElem?_set_self (by omega), hk]
    · rw [List.getElem?_set_ne (by omega)]
      exact hj j (by omega)
  · exact Rs.set_ bcells_length (Blk.keep hO hb) (by omega) x
theorem TBw.same {xs : List Bot} {w : World} {X : List Bot} {wr : World} (h : TBw xs w xs.length X wr) : X = xs := by
  apply List.ext_getElem?
  intro j
  by_cases hj : j < xs.length
  · exact h.2.1 j hj
  · rw [List.getElem?_eq_none (by rw [h.1]; omega), List.getElem?_eq_none (by omega)]

end Go.Proofs.YtdgcgkeclcpafaaDoor
