/-
  Walkers: their cells; the contracts of toWalker, eqWalker, szWalkerS, toWalkerS and of eqWalkerS at equal arguments. Condition: a list of at most 1048576 walkers.
-/
import Derived.Test.YtlfamfdgphhbcaaDoorL
import Derived.Test.YtlfamfdgphhbcaaDoorW0
import Derived.Test.YtlfamfdgphhbcaaDoorYm
import Derived.Test.YtlfamfdgphhbcaaDoorFlb
import Derived.Deep.RegionHeld3
namespace Go.Proofs.YtlfamfdgphhbcaaDoor
open Go.ChangeShapes Go.WideShapes Go.ChangeAt Go.RowKit Go.Deep

def vcells (x : Wal) : List Value := [.int .i16 x.fi, .int .i16 x.ev, .int .i16 x.st, .int .i16 x.sp, .int .i16 x.co, .int .i8 x.tu]
theorem vcells_length (x : Wal) : (vcells x).length = 6 := rfl
theorem vcells_one (x : Wal) : (vcells x).toArray.all (·.oneCell') = true := all_one (by intro v hv; simp only [vcells, List.mem_cons, List.not_mem_nil, or_false] at hv; rcases hv with rfl | rfl | rfl | rfl | rfl | rfl <;> rfl)
theorem vcells_of (cs : List Value) (h : FitsL [.i16, .i16, .i16, .i16, .i16, .i8] cs) : ∃ b, wfV b ∧ cs = vcells b := by
  match cs, h.length, h with
  | [c0, c1, c2, c3, c4, c5], _, h =>
    obtain ⟨⟨n0, rfl, h0⟩, ⟨n1, rfl, h1⟩, ⟨n2, rfl, h2⟩, ⟨n3, rfl, h3⟩, ⟨n4, rfl, h4⟩, ⟨n5, rfl, h5⟩, _⟩ := h
    exact ⟨⟨n0, n1, n2, n3, n4, n5⟩, ⟨wf_i16 h0, wf_i16 h1, wf_i16 h2, wf_i16 h3, wf_i16 h4, bounds_i8 h5⟩, rfl⟩
theorem Tryd.flatVL : FlatT Tryd.prog 25 [.i16, .i16, .i16, .i16, .i16, .i8] :=
  flat_struct (fs := [_, _, _, _, _, _]) (kss := [[.i16], [.i16], [.i16], [.i16], [.i16], [.i8]]) Tryd.underlying25 (by kernel_rfl) ⟨by kernel_rfl, rfl, .int Tryd.underlying22, by kernel_rfl, rfl, .int Tryd.underlying22, by kernel_rfl, rfl, .int Tryd.underlying22, by kernel_rfl, rfl, .int Tryd.underlying22, by kernel_rfl, rfl, .int Tryd.underlying22, by kernel_rfl, rfl, .int Tryd.underlying23, trivial⟩
theorem Tryd.cellsVL : Tryd.prog.cellsOf 25 = 6 := by kernel_rfl
theorem Tryd.sizeVL : (Tryd.prog.info? 25).map (·.size) = some 6 := by kernel_rfl
theorem Tryd.sizeVI : (Tryd.prog.info? 28).map (·.size) = some 6 := by kernel_rfl
theorem Tryd.sizeVIx (x : Wal) : (Tryd.prog.info? 28).map (·.size) = some (vcells x).toArray.size := by rw [Tryd.sizeVI]; rfl
theorem Tryd.infoVI : (Tryd.prog.info? 28).map (fun i => (i.zero, i.size, i.bytes)) = some (some (.agg #[.int .i16 0, .int .i16 0, .int .i16 0, .int .i16 0, .int .i16 0, .int .i8 0]), 6, 12) := by kernel_rfl

theorem toWalker_any (x : Wal) (w : World) : Calls Tryd.prog 8 #[.agg (vcells x).toArray] w fun e w' => e = .returned (.agg (vcells x).toArray) ∧ Below w.heap.size w w' := by
  obtain ⟨fi, ev, st, sp, co, tu⟩ := x
  show Calls Tryd.prog 8 #[.agg #[.int .i16 fi, .int .i16 ev, .int .i16 st, .int .i16 sp, .int .i16 co, .int .i8 tu]] w fun e w' => e = .returned (.agg #[.int .i16 fi, .int .i16 ev, .int .i16 st, .int .i16 sp, .int .i16 co, .int .i8 tu]) ∧ Below w.heap.size w w'
  go_enter Tryd.func8, Tryd.ntmps8
  go_wp2
  refine bodyPost_ret (v := .agg #[.int .i16 fi, .int .i16 ev, .int .i16 st, .int .i16 sp, .int .i16 co, .int .i8 tu]) (by simp [results, Tryd.results8, go_sem]) rfl ⟨rfl, (by repeat (first | exact Below.refl _ _ | refine Below.drew ?_ | refine Below.alloc ?_ (by simp <;> omega) _ | refine Below.setCell ?_ (by simp <;> omega) _))⟩
/-- What stands between two rounds of toWalkerS. -/
def TVal (xs : List Wal) (w : World) (k : Nat) (X : List Wal) (wr : World) : Prop :=
  X.length = xs.length ∧ (∀ j, j < k → X[j]? = xs[j]?) ∧ Rs wr w.heap.size 28 vcells X ∧ Below w.heap.size w wr
theorem TVal.step {xs : List Wal} {w wr w1 : World} {k : Nat} {X : List Wal} {x : Wal} (h : TVal xs w k X wr) (hk : xs[k]? = some x) (hb : Below wr.heap.size wr w1) :
    TVal xs w (k + 1) (X.set k x) (w1.setCells w.heap.size (k * 6) (vcells x).toArray.toList) := by
  obtain ⟨hX, hj, hO, hB⟩ := h
  have hkl := (List.getElem?_eq_some_iff.1 hk).1
  refine ⟨by simp [hX], fun j hjk => ?_, ?_, Below.setCells (hB.trans (hb.mono hB.size)) _ _ _ (Nat.le_refl _)⟩
  · by_cases e : j = k
    · subst e
      rw [List.getElem?_set_self (by omega), hk]
    · rw [List.getElem?_set_ne (by omega)]
      exact hj j (by omega)
  · exact Rs.set_ vcells_length (Blk.keep hO hb) (by omega) x
theorem TVal.same {xs : List Wal} {w : World} {X : List Wal} {wr : World} (h : TVal xs w xs.length X wr) : X = xs := by
  apply List.ext_getElem?
  intro j
  by_cases hj : j < xs.length
  · exact h.2.1 j hj
  · rw [List.getElem?_eq_none (by rw [h.1]; omega), List.getElem?_eq_none (by omega)]

end Go.Proofs.YtlfamfdgphhbcaaDoor
