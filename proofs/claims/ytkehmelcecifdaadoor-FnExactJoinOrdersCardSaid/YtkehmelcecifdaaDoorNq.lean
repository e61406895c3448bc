/-
  A list of lists of a call's own, with one more. No condition of its own.
-/
import Derived.Test.YtkehmelcecifdaaDoorMg6
namespace Go.Proofs.YtkehmelcecifdaaDoor
open Go.ChangeShapes Go.WideShapes Go.ChangeAt Go.RowKit Go.Deep

theorem OwnN.snoc {T : Type} {w w2 w5 : World} {b : Nat} {te t : TypeId} {size : Nat} {cells : T → List Value} {A : Option Addr} {c : Nat} {hs : List Hd} {xss : List (List T)} (h : OwnN w b te t size cells A c hs xss) (hbw : b ≤ w.heap.size) {a : Option Addr} {c0 : Nat} {xs : List T}
    (h2 : Below w.heap.size w w2) (hx : w2.ownsRow w.heap.size t size (.slice a xs.length c0) xs.length (xs.flatMap cells))
    {A' : Option Addr} {c' : Nat} (hown : w5.ownsRow b te 1 (.slice A' (hs.length + 1) c') (hs.length + 1) (hs.flatMap hcells ++ hcells (a, xs.length, c0))) (hg : w2.grownBy w5 (A.map (·.block))) (hblk : A'.map (·.block) = A.map (·.block) ∨ A'.map (·.block) = some w2.heap.size) :
    OwnN w5 b te t size cells A' c' (hs ++ [(a, xs.length, c0)]) (xss ++ [xs]) := by
  have hlow : ∀ q, A.map (·.block) = some q → q < w.heap.size := fun q e => (own_block h.1 (by rw [ownBlock_slice]; exact e)).2
  have hai : ∀ (i : Nat) (hd : Hd), hs[i]? = some hd → ∀ q, hd.1.map (·.block) = some q → q < w.heap.size := fun i hd hi q e => by
    have hil := (List.getElem?_eq_some_iff.1 hi).1
    have hl := h.2.1
    exact (own_block (h.2.2.1 i hd _ hi (List.getElem?_eq_getElem (by omega))).2 (by rw [ownBlock_slice]; exact e)).2
  have hxg : ∀ q, a.map (·.block) = some q → w.heap.size ≤ q ∧ q < w2.heap.size := fun q e => own_block hx (by rw [ownBlock_slice]; exact e)
  have hb2 := h.keep h2
  have hsz := h2.size
  obtain ⟨h1, hl, h3, h4, h5⟩ := hb2
  have hO : Only (fun q => A.map (·.block) = some q) w2 w5 := Only.of_grown hg (fun q e => e)
  refine ⟨?_, by simp [hl], fun i hd zs hi hz => ?_, fun i j hd hd' hij hi hj q e => ?_, fun i hd hi q e => ?_⟩
  · rw [List.length_append, List.flatMap_append]
    simpa using hown
  · by_cases hik : i < hs.length
    · rw [List.getElem?_append_left hik] at hi
      rw [List.getElem?_append_left (by omega)] at hz
      obtain ⟨q1, q2⟩ := h3 i hd zs hi hz
      exact ⟨q1, hO.own q2 (fun q e1 e2 => by rw [ownBlock_slice] at e1; exact h5 i hd hi q e2 e1)⟩
    · have hi' := (List.getElem?_eq_some_iff.1 hi).1
      simp only [List.length_append, List.length_cons, List.length_nil] at hi'
      obtain rfl : i = hs.length := by omega
      rw [List.getElem?_append_right (Nat.le_refl _), Nat.sub_self] at hi
      rw [List.getElem?_append_right (by omega), show hs.length - xss.length = 0 from by omega] at hz
      obtain rfl := Option.some.inj hi
      obtain rfl := Option.some.inj hz
      exact ⟨rfl, own_base (hO.own hx (fun q e1 e2 => by rw [ownBlock_slice] at e1; have := (hxg q e1).1; have := hlow q e2; omega)) hbw⟩
  · have li : ∀ (i : Nat) (hd : Hd), (hs ++ [(a, xs.length, c0)])[i]? = some hd → (i < hs.length ∧ hs[i]? = some hd) ∨ (i = hs.length ∧ hd = (a, xs.length, c0)) := fun i hd hi => by
      by_cases hik : i < hs.length
      · rw [List.getElem?_append_left hik] at hi; exact .inl ⟨hik, hi⟩
      · have hi' := (List.getElem?_eq_some_iff.1 hi).1
        simp only [List.length_append, List.length_cons, List.length_nil] at hi'
        obtain rfl : i = hs.length := by omega
        rw [List.getElem?_append_right (Nat.le_refl _), Nat.sub_self] at hi
        exact .inr ⟨rfl, (Option.some.inj hi).symm⟩
    rcases li i hd hi with ⟨l1, e1⟩ | ⟨l1, rfl⟩ <;> rcases li j hd' hj with ⟨l2, e2⟩ | ⟨l2, rfl⟩
    · exact h4 i j hd hd' hij e1 e2 q e
    · intro e3
      have := (hxg q e3).1
      have := hai i hd e1 q e
      omega
    · intro e3
      have := (hxg q e).1
      have := hai j hd' e2 q e3
      omega
    · omega
  · intro e3
    have key : A.map (·.block) = some q ∨ q = w2.heap.size := by
      rcases hblk with e4 | e4
      · exact .inl (e4.symm.trans e)
      · exact .inr (Option.some.inj (e.symm.trans e4))
    by_cases hik : i < hs.length
    · rw [List.getElem?_append_left hik] at hi
      rcases key with e4 | rfl
      · exact h5 i hd hi q e4 e3
      · have := hai i hd hi _ e3; omega
    · have hi' := (List.getElem?_eq_some_iff.1 hi).1
      simp only [List.length_append, List.length_cons, List.length_nil] at hi'
      obtain rfl : i = hs.length := by omega
      rw [List.getElem?_append_right (Nat.le_refl _), Nat.sub_self] at hi
      obtain rfl := Option.some.inj hi
      have := hxg q e3
      rcases key with e4 | rfl
      · have := hlow q e4; omega
      · omega
/-- The one cell of what is appended. -/
theorem src_hd {P : Program} {te t : TypeId} (ht : P.underlying te = some (.slice t)) (w : World) (h : Hd) :
    Src P 1 te (.slice (some ⟨w.heap.size, 0, none⟩) 1 1) 1 (hcells h) (w.alloc (.cells (hcells h).toArray t)) := by
  have hK : Rs (w.alloc (.cells (hcells h).toArray t)) w.heap.size t hcells [h] := by
    have := Blk.new w t (hcells h).toArray
    simpa [Rs] using this
  have := src_of_rd (P := P) (w.alloc (.cells (hcells h).toArray t)) ht hcells_length hcells_one (hK.rd hK.lt) (c := 1) (A := some ⟨w.heap.size, 0, none⟩) (xs := [h])
  simpa using this
end Go.Proofs.YtkehmelcecifdaaDoor
