/-
  What is turned in one block alone; what is kept then. No condition of its own.
-/
import Derived.Test.YtcdhmlalpjcidaaDoorFlat
import Derived.WalkKit
import Derived.OwnWalk
namespace Go.Proofs.YtcdhmlalpjcidaaDoor
open Go.ChangeShapes Go.WideShapes Go.ChangeAt Go.RowKit Go.Deep

theorem grown_of_below {W W' : World} (h : Below W.heap.size W W') : W.grownBy W' none := ⟨h.os, h.tape, h.output, h.size, fun k hk _ => h.block k hk⟩
theorem own_rd {T : Type} {w : World} {b size : Nat} {e : TypeId} {v : Value} {xs : List T} {cells : T → List Value} (hs : ∀ x, (cells x).length = size) (h : w.ownsRow b e size v xs.length (xs.flatMap cells)) :
    ∃ A c, v = .slice A xs.length c ∧ xs.length ≤ c ∧ Rd w w.heap.size cells A xs := by
  rcases h.2 with ⟨rfl, h0⟩ | ⟨g, cap, cur, rfl, hb, hg, hn, hc, hz, ht⟩
  · refine ⟨none, 0, by rw [h0], by omega, fun hn => by omega⟩
  · refine ⟨some ⟨g, 0, none⟩, cap, rfl, hn, fun _ => ⟨g, 0, rfl, (Array.getElem?_eq_some_iff.1 hg).1, fun j v hv => ?_⟩⟩
    have hj := (List.getElem?_eq_some_iff.1 hv).1
    rw [rows_length hs] at hj
    rw [Nat.zero_add, h.cellAt j (by first | exact hj | (rw [Nat.mul_comm]; exact hj))]
    exact hv
theorem own_keep' {w w' : World} {b size n : Nat} {e : TypeId} {v : Value} {xs : List Value} (h : w.ownsRow b e size v n xs) (hb : Below w.heap.size w w') : w'.ownsRow b e size v n xs := h.kept (grown_of_below hb) (Classical.em _)
theorem own_base {w : World} {b b' size n : Nat} {e : TypeId} {v : Value} {xs : List Value} (h : w.ownsRow b e size v n xs) (hb : b' ≤ b) : w.ownsRow b' e size v n xs := by
  refine ⟨h.1, ?_⟩
  rcases h.2 with h0 | ⟨g, cap, cur, h1, h2, h3⟩
  · exact .inl h0
  · exact .inr ⟨g, cap, cur, h1, Nat.le_trans hb h2, h3⟩
end Go.Proofs.YtcdhmlalpjcidaaDoor

namespace Go.Proofs.YtcdhmlalpjcidaaDoor
open Go.ChangeShapes Go.WideShapes Go.ChangeAt Go.RowKit Go.Deep

theorem gk_refl (w : World) (row : Option Nat) : w.grownBy w row := ⟨rfl, rfl, rfl, Nat.le_refl _, fun _ _ _ => rfl⟩
theorem gk_set {w w1 : World} {B j : Nat} (h : w.grownBy w1 (some B)) (u : Value) : w.grownBy (w1.setCell ⟨B, j, none⟩ u) (some B) :=
  ⟨h.os, h.tape, h.output, by simpa [World.setCell] using h.size, fun k hk hr => (Below.heap_setCell _ _ _ _ (by rintro rfl; exact hr rfl)).trans (h.block k hk hr)⟩
theorem gk_below {w w1 : World} {row : Option Nat} {b : Nat} (h : w.grownBy w1 row) (hb : b ≤ w.heap.size) (hr : ∀ k, row = some k → b ≤ k) : Below b w w1 := (Below.refl b w).grown h hb hr
/-- A block other than the one that is turned. -/
theorem gk_blk {w w1 : World} {row : Option Nat} {B : Nat} {t : TypeId} {cs : Array Value} (h : Blk w B t cs) (hg : w.grownBy w1 row) (hne : row ≠ some B) : Blk w1 B t cs :=
  (hg.block B h.lt (fun e => hne e.symm)).trans h
/-- Rows of the call's own, kept where another block is turned. -/
theorem gk_own {w w1 : World} {row : Option Nat} {b size n : Nat} {e : TypeId} {v : Value} {xs : List Value} (h : w.ownsRow b e size v n xs) (hg : w.grownBy w1 row) (hne : ∀ k, row = some k → k < b) : w1.ownsRow b e size v n xs := by
  refine ⟨h.1, ?_⟩
  rcases h.2 with h0 | ⟨g, cap, cur, h1, h2, h3, h4⟩
  · exact .inl h0
  · exact .inr ⟨g, cap, cur, h1, h2, (hg.block g (Array.getElem?_eq_some_iff.1 h3).1 (fun e => by have := hne g e.symm; omega)).trans h3, h4⟩
/-- A row of the call's own lies in one block, or is empty. -/
theorem gk_src {w : World} {b size : Nat} {e : TypeId} {A : Option Addr} {n c : Nat} {xs : List Value} (h : w.ownsRow b e size (.slice A n c) n xs) : n = 0 ∨ ∃ g cur, A = some ⟨g, 0, none⟩ ∧ Blk w g e cur ∧ n * size ≤ cur.size := by
  rcases h.2 with ⟨-, h0⟩ | ⟨g, cap, cur, hv, hbg, hg, hnc, hcap, hsz, -⟩
  · exact .inl h0
  · refine .inr ⟨g, cur, (by simpa using hv : A = some ⟨g, 0, none⟩ ∧ c = cap).1, hg, ?_⟩
    rw [hsz]
    exact Nat.mul_le_mul_right _ hnc
/-- The same of rows that have just been made. -/
theorem gk_rs {T : Type} {w : World} {B size : Nat} {t : TypeId} {cells : T → List Value} {xs : List T} (hs : ∀ x, (cells x).length = size) (h : Rs w B t cells xs) : xs.length = 0 ∨ ∃ g cur, (some ⟨B, 0, none⟩ : Option Addr) = some ⟨g, 0, none⟩ ∧ Blk w g t cur ∧ xs.length * size ≤ cur.size :=
  .inr ⟨B, _, rfl, h, by rw [List.size_toArray, rows_length hs]; exact Nat.le_refl _⟩
theorem gk_ge {w : World} {b size : Nat} {e : TypeId} {A : Option Addr} {n c : Nat} {xs : List Value} (h : w.ownsRow b e size (.slice A n c) n xs) : ∀ k, A.map (·.block) = some k → b ≤ k := by
  rcases h.2 with ⟨h0, -⟩ | ⟨g, cap, cur, hv, hbg, -⟩
  · obtain rfl : A = none := by simpa using (Value.slice.inj h0).1
    intro k e; cases e
  · obtain rfl : A = some ⟨g, 0, none⟩ := (Value.slice.inj hv).1
    intro k e
    obtain rfl : g = k := by simpa using e
    exact hbg
theorem own_rd2 {T : Type} {w : World} {b size : Nat} {e : TypeId} {A : Option Addr} {c : Nat} {xs : List T} {cells : T → List Value} (hs : ∀ x, (cells x).length = size) (h : w.ownsRow b e size (.slice A xs.length c) xs.length (xs.flatMap cells)) : Rd w w.heap.size cells A xs := by
  obtain ⟨A', c', e, -, hr⟩ := own_rd hs h
  obtain rfl : A = A' := (Value.slice.inj e).1
  exact hr
end Go.Proofs.YtcdhmlalpjcidaaDoor
