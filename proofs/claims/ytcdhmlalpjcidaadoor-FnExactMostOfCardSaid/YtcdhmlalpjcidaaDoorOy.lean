/-
  What is turned only in some blocks (as No, beside wants). No condition of its own.
-/
import Derived.Test.YtcdhmlalpjcidaaDoorMg3
namespace Go.Proofs.YtcdhmlalpjcidaaDoor
open Go.ChangeShapes Go.WideShapes Go.ChangeAt Go.RowKit Go.Deep

structure OnlyG (S : Nat → Prop) (w w' : World) : Prop where
  os : w'.os = w.os
  tape : w'.tape = w.tape
  output : w'.output = w.output
  size : w.heap.size ≤ w'.heap.size
  block : ∀ k, k < w.heap.size → ¬ S k → w'.heap[k]? = w.heap[k]?
theorem OnlyG.of_grown {S : Nat → Prop} {a b : World} {row : Option Nat} (h : a.grownBy b row) (hS : ∀ k, row = some k → S k) : OnlyG S a b :=
  ⟨h.os, h.tape, h.output, h.size, fun k hk hs => h.block k hk (fun e => hs (hS k e.symm))⟩
theorem OnlyG.rd {T : Type} {S : Nat → Prop} {w w' : World} {cells : T → List Value} {A : Option Addr} {xs : List T} (h : OnlyG S w w') (hr : Rd w w.heap.size cells A xs) (hne : ∀ k, A.map (·.block) = some k → ¬ S k) : Rd w' w'.heap.size cells A xs := fun hn => by
  obtain ⟨b, o, rfl, hlt, hrow⟩ := hr hn
  refine ⟨b, o, rfl, Nat.lt_of_lt_of_le hlt h.size, fun j v hv => ?_⟩
  rw [World.cell?_of_block (w := w) (w' := w') (a := ⟨b, o + j, none⟩) (h.block b hlt (hne b rfl))]
  exact hrow j v hv
theorem own_blockG {w : World} {b size n : Nat} {e : TypeId} {v : Value} {xs : List Value} (h : w.ownsRow b e size v n xs) {k : Nat} (hk : v.ownBlock = some k) : b ≤ k ∧ k < w.heap.size := by
  rcases h.2 with ⟨rfl, -⟩ | ⟨g, cap, cur, rfl, h2, h3, -⟩
  · cases hk
  · obtain rfl : g = k := by simpa [Value.ownBlock] using hk
    exact ⟨h2, (Array.getElem?_eq_some_iff.1 h3).1⟩

theorem ownBlock_sliceG (A : Option Addr) (n c : Nat) : (Value.slice A n c).ownBlock = A.map (·.block) := by cases A <;> rfl
theorem OnlyG.own {S : Nat → Prop} {w w' : World} {b size n : Nat} {e : TypeId} {v : Value} {xs : List Value} (h : OnlyG S w w') (ho : w.ownsRow b e size v n xs) (hne : ∀ k, v.ownBlock = some k → ¬ S k) : w'.ownsRow b e size v n xs := by
  refine ⟨ho.1, ?_⟩
  rcases ho.2 with h0 | ⟨g, cap, cur, h1, h2, h3, h4⟩
  · exact .inl h0
  · exact .inr ⟨g, cap, cur, h1, h2, (h.block g (Array.getElem?_eq_some_iff.1 h3).1 (hne g (by rw [h1]; rfl))).trans h3, h4⟩

end Go.Proofs.YtcdhmlalpjcidaaDoor
