/-
  A cell of a list of lists of a call's own is set. No condition of its own.
-/
import Derived.Test.YtfmfgpipklmecaaDoorNq
import Derived.Test.YtfmfgpipklmecaaDoorTm
import Derived.Laws.OwnMore
namespace Go.Proofs.YtfmfgpipklmecaaDoor
open Go.ChangeShapes Go.WideShapes Go.ChangeAt Go.RowKit Go.Deep

theorem flat_iN (xs : List Int) : xs.flatMap icells = xs.map (fun x => Value.int .i64 x) := by
  induction xs with
  | nil => rfl
  | cons x xs ih => rw [List.flatMap_cons, ih]; rfl
theorem OwnN.rowAt {w : World} {b : Nat} {te t : TypeId} {A : Option Addr} {c : Nat} {hs : List Hd} {xss : List (List Int)} (h : OwnN w b te t 1 icells A c hs xss) {i : Nat} {xs : List Int} (hx : xss[i]? = some xs) (h0 : 0 < xs.length) :
    ∃ gA g c0, A = some ⟨gA, 0, none⟩ ∧ w.cell? ⟨gA, i, none⟩ = some (.slice (some ⟨g, 0, none⟩) xs.length c0) ∧ hs[i]? = some (some ⟨g, 0, none⟩, xs.length, c0) ∧ b ≤ g ∧ (∀ (k : Nat) (x : Int), xs[k]? = some x → w.cell? ⟨g, k, none⟩ = some (.int .i64 x)) ∧ (∀ k, w.frozen? ⟨g, k, none⟩ = false) ∧
      ∀ (k : Nat) (x : Int), OwnN (w.setCell ⟨g, k, none⟩ (.int .i64 x)) b te t 1 icells A c hs (xss.set i (xs.set k x)) := by
  obtain ⟨h1, hl, h3, h4, h5⟩ := h
  have hil : i < xss.length := (List.getElem?_eq_some_iff.1 hx).1
  obtain ⟨hd, hhd⟩ : ∃ hd, hs[i]? = some hd := ⟨_, List.getElem?_eq_getElem (by omega)⟩
  obtain ⟨q1, q2⟩ := h3 i hd xs hhd hx
  obtain ⟨a, n, c0⟩ := hd
  simp only at q1 q2
  subst q1
  obtain ⟨g, rfl⟩ : ∃ g, a = some ⟨g, 0, none⟩ := by
    rcases q2.2 with ⟨h', h0'⟩ | ⟨g, cap, cur, h', -⟩
    · omega
    · exact ⟨g, by simp only [Value.slice.injEq] at h'; exact h'.1⟩
  obtain ⟨gA, rfl⟩ : ∃ g, A = some ⟨g, 0, none⟩ := by
    rcases h1.2 with ⟨h', h0'⟩ | ⟨g, cap, cur, h', -⟩
    · omega
    · exact ⟨g, by simp only [Value.slice.injEq] at h'; exact h'.1⟩
  have hgb := own_block q2 (k := g) rfl
  have hcA : w.cell? ⟨gA, i, none⟩ = some (.slice (some ⟨g, 0, none⟩) xs.length c0) := by
    rw [h1.cellAt i (by omega), flat_h, List.getElem?_map, hhd]; rfl
  refine ⟨gA, g, c0, rfl, hcA, hhd, hgb.1, fun k x hk => ?_, fun k => q2.frozenAt k, fun k x => ?_⟩
  · have hkl := (List.getElem?_eq_some_iff.1 hk).1
    rw [q2.cellAt k (by omega), flat_iN, List.getElem?_map, hk]; rfl
  · have hS := only_set w g k (.int .i64 x)
    refine ⟨hS.own h1 (fun q e e2 => ?_), by simp [hl], fun j hd zs hj hz => ?_, h4, h5⟩
    · subst e2
      rw [ownBlock_slice] at e
      exact h5 i _ hhd q e rfl
    · by_cases e : j = i
      · subst e
        rw [List.getElem?_set_self hil] at hz
        obtain rfl := Option.some.inj (hhd.symm.trans hj)
        obtain rfl := Option.some.inj hz
        refine ⟨by simp, ?_⟩
        have := (q2.stored k (.int .i64 x)).1
        rw [flat_iN] at this
        rw [List.length_set, flat_iN, List.map_set]
        exact this
      · rw [List.getElem?_set_ne (Ne.symm e)] at hz
        obtain ⟨r1, r2⟩ := h3 j hd zs hj hz
        refine ⟨r1, hS.own r2 (fun q e1 e2 => ?_)⟩
        rw [ownBlock_slice] at e1
        subst e2
        exact h4 j i hd _ e hj hhd q e1 rfl
end Go.Proofs.YtfmfgpipklmecaaDoor
