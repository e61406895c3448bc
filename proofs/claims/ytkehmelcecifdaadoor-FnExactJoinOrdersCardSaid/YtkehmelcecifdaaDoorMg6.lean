/-
  What an append to one of several lists leaves. No condition of its own.
-/
import Derived.Test.YtkehmelcecifdaaDoorNo
import Derived.Test.YtkehmelcecifdaaDoorAs0


namespace Go.Proofs.YtkehmelcecifdaaDoor
open Go.ChangeShapes Go.WideShapes Go.ChangeAt Go.RowKit Go.Deep

theorem own_of_rs {T : Type} {w : World} {g size : Nat} {t : TypeId} {cells : T → List Value} {xs : List T} (hs : ∀ x, (cells x).length = size) (h : Rs w g t cells xs) (hm : xs.length ≤ maxLen) : w.ownsRow g t size (.slice (some ⟨g, 0, none⟩) xs.length xs.length) xs.length (xs.flatMap cells) :=
  ⟨rows_length hs xs, .inr ⟨g, xs.length, _, rfl, Nat.le_refl _, h, Nat.le_refl _, hm, by rw [List.size_toArray, rows_length hs], by rw [← rows_length hs xs]; exact List.take_length⟩⟩
theorem only_set (w : World) (B j : Nat) (u : Value) : Only (fun k => k = B) w (w.setCell ⟨B, j, none⟩ u) := Only.of_grown (gk_set (gk_refl w (some B)) u) (fun k e => (Option.some.inj e).symm)
/-- One cell of a list of lists is set. -/
theorem own_setH {w : World} {b g o n c : Nat} {te : TypeId} {hs : List Hd} (h : w.ownsRow b te 1 (.slice (some ⟨g, o, none⟩) n c) n (hs.flatMap hcells)) (k : Nat) (x : Hd) : o = 0 ∧ (w.setCell ⟨g, k, none⟩ (.slice x.1 x.2.1 x.2.2)).ownsRow b te 1 (.slice (some ⟨g, 0, none⟩) n c) n ((hs.set k x).flatMap hcells) := by
  rcases h.2 with ⟨h0, -⟩ | ⟨g', cap, cur, hv, hb, hg, hn, hc, hz, ht⟩
  · cases h0
  · simp only [Value.slice.injEq, Option.some.injEq, Addr.mk.injEq, and_true, true_and] at hv
    obtain ⟨⟨rfl, rfl⟩, rfl⟩ := hv
    have hK : Blk w g te cur := hg
    refine ⟨rfl, by rw [flat_h, List.length_map, List.length_set, ← List.length_map (f := fun h : Hd => Value.slice h.1 h.2.1 h.2.2), ← flat_h]; exact h.1, .inr ⟨g, c, _, rfl, hb, hK.set_ k _, hn, hc, by simpa using hz, ?_⟩⟩
    rw [Array.toList_setIfInBounds, List.take_set, ht, flat_h, flat_h, List.map_set]

theorem OwnN.put {T : Type} {w w2 w5 : World} {b g0 : Nat} {te t : TypeId} {size : Nat} {cells : T → List Value} {c : Nat} {hs : List Hd} {xss : List (List T)} (h : OwnN w b te t size cells (some ⟨g0, 0, none⟩) c hs xss) {k : Nat} {a : Option Addr} {m c0 : Nat} {xs ys : List T} (hk : hs[k]? = some (a, m, c0)) (hx : xss[k]? = some xs)
    (h2 : Below w.heap.size w w2) {A' : Option Addr} {c' : Nat} (hown : w5.ownsRow b t size (.slice A' ys.length c') ys.length (ys.flatMap cells)) (hg : w2.grownBy w5 (a.map (·.block))) (hblk : A'.map (·.block) = a.map (·.block) ∨ A'.map (·.block) = some w2.heap.size) :
    OwnN (w5.setCell ⟨g0, k, none⟩ (.slice A' ys.length c')) b te t size cells (some ⟨g0, 0, none⟩) c (hs.set k (A', ys.length, c')) (xss.set k ys) := by
  have hb2 := h.keep h2
  obtain ⟨-, -, -, -, -⟩ := h
  obtain ⟨h1, hl, h3, h4, h5⟩ := hb2
  have hO : Only (fun q => a.map (·.block) = some q) w2 w5 := Only.of_grown hg (fun q e => e)
  have hg0 : b ≤ g0 ∧ g0 < w2.heap.size := own_block h1 rfl
  have hkl : k < hs.length := (List.getElem?_eq_some_iff.1 hk).1
  have hag : ∀ q, a.map (·.block) = some q → q ≠ g0 := fun q e e2 => by subst e2; exact h5 k _ hk q rfl e
  have hAg : ∀ q, A'.map (·.block) = some q → q ≠ g0 := fun q e => by
    rcases hblk with e2 | e2
    · exact hag q (by rw [← e2]; exact e)
    · have : q = w2.heap.size := by rw [e2] at e; exact (Option.some.inj e).symm
      have := hg0.2; omega
  have h1' : w5.ownsRow b te 1 (.slice (some ⟨g0, 0, none⟩) hs.length c) hs.length (hs.flatMap hcells) := hO.own h1 (fun q e e2 => hag q e2 (by simpa [Value.ownBlock] using e.symm))
  have hS := only_set w5 g0 k (.slice A' ys.length c')
  refine ⟨?_, by simp [hl], fun i hd zs hi hz => ?_, fun i j hd hd' hij hi hj q e => ?_, fun i hd hi q e => ?_⟩
  · have := (own_setH h1' k (A', ys.length, c')).2
    rw [List.length_set]
    exact this
  · by_cases e : i = k
    · subst e
      rw [List.getElem?_set_self hkl] at hi
      rw [List.getElem?_set_self (by omega)] at hz
      obtain rfl := Option.some.inj hi
      obtain rfl := Option.some.inj hz
      exact ⟨rfl, hS.own hown (fun q e e2 => by rw [ownBlock_slice] at e; exact hAg q e e2)⟩
    · rw [List.getElem?_set_ne (Ne.symm e)] at hi hz
      obtain ⟨q1, q2⟩ := h3 i hd zs hi hz
      refine ⟨q1, hS.own (hO.own q2 (fun q e1 e2 => ?_)) (fun q e1 e2 => ?_)⟩
      · rw [ownBlock_slice] at e1
        exact h4 i k hd _ e hi hk q e1 e2
      · rw [ownBlock_slice] at e1
        subst e2
        exact h5 i hd hi q rfl e1
  · by_cases ei : i = k
    · have ej : j ≠ k := by omega
      subst ei
      rw [List.getElem?_set_self hkl] at hi
      rw [List.getElem?_set_ne (Ne.symm ej)] at hj
      obtain rfl := Option.some.inj hi
      rcases hblk with e2 | e2
      · exact h4 i j _ hd' hij hk hj q (by rw [← e2]; exact e)
      · intro e3
        have hjl := (List.getElem?_eq_some_iff.1 hj).1
        have := (own_block (h3 j hd' _ hj (List.getElem?_eq_getElem (by omega))).2 (by rw [ownBlock_slice]; exact e3)).2
        have : q = w2.heap.size := by rw [e2] at e; exact (Option.some.inj e).symm
        omega
    · rw [List.getElem?_set_ne (Ne.symm ei)] at hi
      by_cases ej : j = k
      · subst ej
        rw [List.getElem?_set_self hkl] at hj
        obtain rfl := Option.some.inj hj
        have hil := (List.getElem?_eq_some_iff.1 hi).1
        have hqb := (own_block (h3 i hd _ hi (List.getElem?_eq_getElem (by omega))).2 (by rw [ownBlock_slice]; exact e)).2
        rcases hblk with e2 | e2
        · show A'.map (·.block) ≠ some q
          rw [e2]; exact h4 i j hd _ hij hi hk q e
        · show A'.map (·.block) ≠ some q
          rw [e2]; intro e3
          have := Option.some.inj e3
          omega
      · rw [List.getElem?_set_ne (Ne.symm ej)] at hj
        exact h4 i j hd hd' hij hi hj q e
  · obtain rfl : g0 = q := by simpa using e
    by_cases ei : i = k
    · subst ei
      rw [List.getElem?_set_self hkl] at hi
      obtain rfl := Option.some.inj hi
      exact fun e3 => hAg g0 e3 rfl
    · rw [List.getElem?_set_ne (Ne.symm ei)] at hi
      exact h5 i hd hi g0 rfl
end Go.Proofs.YtkehmelcecifdaaDoor
