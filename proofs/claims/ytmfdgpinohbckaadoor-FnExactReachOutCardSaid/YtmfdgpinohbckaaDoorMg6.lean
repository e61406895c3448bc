/-
  DeleteFunc over spots, what it wants: a block written beyond its rows keeps them; lists that are filtered step by step. No program's condition.
-/
import Derived.Test.YtmfdgpinohbckaaDoorBk2
import Derived.Lib.SliceRun
import Derived.Test.YtmfdgpinohbckaaDoorDd1
import Derived.Test.YtmfdgpinohbckaaDoorIs0
import Derived.Test.YtmfdgpinohbckaaDoorMg5
namespace Go.Proofs.YtmfdgpinohbckaaDoor
open Go.ChangeShapes Go.WideShapes Go.ChangeAt Go.RowKit Go.Deep

theorem zeroCells_len (zs : Array Value) (n : Nat) : (Builtin.zeroCells zs n).toList.length = n * zs.size := by simp [Builtin.zeroCells]
theorem zeroCells_one {zs : Array Value} {n : Nat} (h : ∀ v ∈ zs, v.oneCell' = true) (h0 : 0 < zs.size) : ∀ v ∈ (Builtin.zeroCells zs n).toList, v.oneCell' = true := by
  intro v hv
  simp only [Builtin.zeroCells, Array.toList_map, List.mem_map] at hv
  obtain ⟨i, -, rfl⟩ := hv
  rw [getElem!_pos zs (i % zs.size) (Nat.mod_lt _ h0)]
  exact h _ (Array.getElem_mem _)
theorem run_clear_rows {P : Program} (w : World) (t e ty : TypeId) (z : Value) (ht : P.underlying t = some (.slice e)) (hv : ∀ w, (zeroValue e).run P w = .ok z w) (h0 : 0 < z.cells.size) (h1 : ∀ v ∈ z.cells, v.oneCell' = true) (b o n c : Nat) (hn : 0 < n)
    (hc : ∀ j, j < n * z.cells.size → (w.cell? ⟨b, o + j, none⟩).isSome = true) (hf : ∀ j, j < n * z.cells.size → w.frozen? ⟨b, o + j, none⟩ = false) :
    (Builtin.clear_ #[t] ty #[.slice (some ⟨b, o, none⟩) n c]).run P w = .ok (.tuple #[]) (w.setCells b o (Builtin.zeroCells z.cells n).toList) := by
  have hst := run_storeCells_cells (P := P) b o (Builtin.zeroCells z.cells n).toList 0 w (by rw [zeroCells_len]; simpa using hc) (by rw [zeroCells_len]; simpa using hf) (zeroCells_one h1 h0)
  simp only [Nat.add_zero] at hst
  obtain ⟨m, rfl⟩ : ∃ m, n = m + 1 := ⟨n - 1, by omega⟩
  simp [Builtin.clear_, run_underlying ht, hv, hst]
end Go.Proofs.YtmfdgpinohbckaaDoor

namespace Go.Proofs.YtmfdgpinohbckaaDoor
open Go.ChangeShapes Go.WideShapes Go.ChangeAt Go.RowKit Go.Deep

theorem gk_setCells {w w1 : World} {G : Nat} (h : w.grownBy w1 (some G)) (o : Nat) (vs : List Value) : w.grownBy (w1.setCells G o vs) (some G) := by
  obtain ⟨e1, e2, e3⟩ := setCells_same G vs o w1
  exact ⟨by rw [e1]; exact h.os, by rw [e2]; exact h.tape, by rw [e3]; exact h.output, by rw [size_setCells]; exact h.size, fun k hk hne => by rw [setCells_other _ _ _ _ _ (fun e => hne (by rw [e]))]; exact h.block k hk hne⟩
theorem OX.beyond {T : Type} {w : World} {g m cap : Nat} {t : TypeId} {cells : T → List Value} {Z : List T} (h : OX w g t m cells Z cap) (o : Nat) (vs : List Value) (ho : Z.length * m ≤ o) (hv : o + vs.length ≤ cap * m) : OX (w.setCells g o vs) g t m cells Z cap := by
  obtain ⟨cur, hg, h2, h3, h4, h5⟩ := h
  have hB : Blk w g t cur.toList.toArray := hg
  have hz : cur.toList.length = cap * m := by simp [h4]
  have := hB.setCells o vs (by rw [hz]; exact hv)
  refine ⟨_, this, h2, h3, ?_, ?_⟩
  · simp only [List.size_toArray, List.length_append, List.length_take, List.length_drop, hz]
    omega
  · show (cur.toList.take o ++ vs ++ cur.toList.drop (o + vs.length)).take (Z.length * m) = _
    rw [← h5, List.append_assoc, List.take_append_of_le_length (by rw [List.length_take, hz]; omega), List.take_take, Nat.min_eq_left ho]
theorem filt_all {g : Sp → Bool} {qs : List Sp} {k : Nat} (h : AllS g qs k) : (qs.take k).filter g = qs.take k := by
  apply List.filter_eq_self.2
  intro x hx
  obtain ⟨j, hj, rfl⟩ := List.mem_iff_getElem.1 hx
  rw [List.length_take] at hj
  refine h j _ (by omega) ?_
  rw [List.getElem_take]
  exact List.getElem?_eq_getElem (by omega)
theorem filt_no {g : Sp → Bool} {qs : List Sp} {k : Nat} {x : Sp} (hx : qs[k]? = some x) (h : g x = false) : (qs.take (k + 1)).filter g = (qs.take k).filter g := by
  rw [List.take_add_one, hx, List.filter_append]
  simp [h]
theorem filt_yes {g : Sp → Bool} {qs : List Sp} {k : Nat} {x : Sp} (hx : qs[k]? = some x) (h : g x = true) : (qs.take (k + 1)).filter g = (qs.take k).filter g ++ [x] := by
  rw [List.take_add_one, hx, List.filter_append]
  simp [h]
theorem take_set {T : Type} {X : List T} {m : Nat} (h : m < X.length) (x : T) : (X.set m x).take (m + 1) = X.take m ++ [x] := by
  rw [List.take_add_one, List.getElem?_set_self h, List.take_set_of_le (Nat.le_refl m)]
  rfl
end Go.Proofs.YtmfdgpinohbckaaDoor
