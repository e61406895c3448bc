/-
  Lists of lists that a call has made; what is turned in some blocks alone. No condition of its own.
-/
import Derived.Test.YtkehmelcecifdaaDoorNs
import Derived.Test.YtkehmelcecifdaaDoorMg2
namespace Go.Proofs.YtkehmelcecifdaaDoor
open Go.ChangeShapes Go.WideShapes Go.ChangeAt Go.RowKit Go.Deep

/-- Nothing that was there has been turned, but in the blocks of S. -/
structure Only (S : Nat → Prop) (w w' : World) : Prop where
  os : w'.os = w.os
  tape : w'.tape = w.tape
  output : w'.output = w.output
  size : w.heap.size ≤ w'.heap.size
  block : ∀ k, k < w.heap.size → ¬ S k → w'.heap[k]? = w.heap[k]?
theorem Only.refl (S : Nat → Prop) (w : World) : Only S w w := ⟨rfl, rfl, rfl, Nat.le_refl _, fun _ _ _ => rfl⟩
theorem Only.trans {S : Nat → Prop} {a b c : World} (h : Only S a b) (k : Only S b c) : Only S a c :=
  ⟨k.os.trans h.os, k.tape.trans h.tape, k.output.trans h.output, Nat.le_trans h.size k.size, fun i hi hs => (k.block i (Nat.lt_of_lt_of_le hi h.size) hs).trans (h.block i hi hs)⟩
theorem Only.mono {S S' : Nat → Prop} {a b : World} (h : Only S a b) (hS : ∀ k, S k → S' k) : Only S' a b := ⟨h.os, h.tape, h.output, h.size, fun i hi hs => h.block i hi (fun e => hs (hS i e))⟩
theorem Only.of_below {S : Nat → Prop} {a b : World} (h : Below a.heap.size a b) : Only S a b := ⟨h.os, h.tape, h.output, h.size, fun k hk _ => h.block k hk⟩
theorem Only.of_grown {S : Nat → Prop} {a b : World} {row : Option Nat} (h : a.grownBy b row) (hS : ∀ k, row = some k → S k) : Only S a b :=
  ⟨h.os, h.tape, h.output, h.size, fun k hk hs => h.block k hk (fun e => hs (hS k e.symm))⟩
theorem Only.below {S : Nat → Prop} {a w w' : World} {B : Nat} (h : Only S w w') (hb : Below B a w) (hB : B ≤ w.heap.size) (hS : ∀ k, S k → B ≤ k) : Below B a w' :=
  hb.trans ⟨h.os, h.tape, h.output, h.size, fun k hk => h.block k (Nat.lt_of_lt_of_le hk hB) (fun e => by have := hS k e; omega)⟩
theorem Only.blk {S : Nat → Prop} {w w' : World} {B : Nat} {t : TypeId} {cs : Array Value} (h : Only S w w') (hK : Blk w B t cs) (hne : ¬ S B) : Blk w' B t cs := (h.block B hK.lt hne).trans hK
theorem Only.rd {T : Type} {S : Nat → Prop} {w w' : World} {cells : T → List Value} {A : Option Addr} {xs : List T} (h : Only S w w') (hr : Rd w w.heap.size cells A xs) (hne : ∀ k, A.map (·.block) = some k → ¬ S k) : Rd w' w'.heap.size cells A xs := fun hn => by
  obtain ⟨b, o, rfl, hlt, hrow⟩ := hr hn
  refine ⟨b, o, rfl, Nat.lt_of_lt_of_le hlt h.size, fun j v hv => ?_⟩
  rw [World.cell?_of_block (w := w) (w' := w') (a := ⟨b, o + j, none⟩) (h.block b hlt (hne b rfl))]
  exact hrow j v hv
theorem Only.own {S : Nat → Prop} {w w' : World} {b size n : Nat} {e : TypeId} {v : Value} {xs : List Value} (h : Only S w w') (ho : w.ownsRow b e size v n xs) (hne : ∀ k, v.ownBlock = some k → ¬ S k) : w'.ownsRow b e size v n xs := by
  refine ⟨ho.1, ?_⟩
  rcases ho.2 with h0 | ⟨g, cap, cur, h1, h2, h3, h4⟩
  · exact .inl h0
  · exact .inr ⟨g, cap, cur, h1, h2, (h.block g (Array.getElem?_eq_some_iff.1 h3).1 (hne g (by rw [h1]; rfl))).trans h3, h4⟩

theorem own_block {w : World} {b size n : Nat} {e : TypeId} {v : Value} {xs : List Value} (h : w.ownsRow b e size v n xs) {k : Nat} (hk : v.ownBlock = some k) : b ≤ k ∧ k < w.heap.size := by
  rcases h.2 with ⟨rfl, -⟩ | ⟨g, cap, cur, rfl, h2, h3, -⟩
  · cases hk
  · obtain rfl : g = k := by simpa [Value.ownBlock] using hk
    exact ⟨h2, (Array.getElem?_eq_some_iff.1 h3).1⟩

/-- Lists of the call's own: the list of them, each of them, and no two in one block. -/
def OwnN {T : Type} (w : World) (b : Nat) (te t : TypeId) (size : Nat) (cells : T → List Value) (A : Option Addr) (c : Nat) (hs : List Hd) (xss : List (List T)) : Prop :=
  w.ownsRow b te 1 (.slice A hs.length c) hs.length (hs.flatMap hcells) ∧ hs.length = xss.length ∧
  (∀ (i : Nat) (h : Hd) (xs : List T), hs[i]? = some h → xss[i]? = some xs → h.2.1 = xs.length ∧ w.ownsRow b t size (.slice h.1 h.2.1 h.2.2) xs.length (xs.flatMap cells)) ∧
  (∀ (i j : Nat) (h h' : Hd), i ≠ j → hs[i]? = some h → hs[j]? = some h' → ∀ k, h.1.map (·.block) = some k → h'.1.map (·.block) ≠ some k) ∧
  (∀ (i : Nat) (h : Hd), hs[i]? = some h → ∀ k, A.map (·.block) = some k → h.1.map (·.block) ≠ some k)
theorem OwnN.rd {T : Type} {w : World} {b : Nat} {te t : TypeId} {size : Nat} {cells : T → List Value} {A : Option Addr} {c : Nat} {hs : List Hd} {xss : List (List T)} (hs1 : ∀ x, (cells x).length = size) (h : OwnN w b te t size cells A c hs xss) : RdN w w.heap.size cells A xss := by
  obtain ⟨h1, h2, h3, -, -⟩ := h
  refine ⟨hs, h2, own_rd2 hcells_length h1, fun i hd xs hi hx => ?_⟩
  obtain ⟨e, ho⟩ := h3 i hd xs hi hx
  rw [e] at ho
  exact ⟨e, own_rd2 hs1 ho⟩
theorem OwnN.keep {T : Type} {w w' : World} {b : Nat} {te t : TypeId} {size : Nat} {cells : T → List Value} {A : Option Addr} {c : Nat} {hs : List Hd} {xss : List (List T)} (h : OwnN w b te t size cells A c hs xss) (hb : Below w.heap.size w w') : OwnN w' b te t size cells A c hs xss := by
  obtain ⟨h1, h2, h3, h4, h5⟩ := h
  exact ⟨own_keep' h1 hb, h2, fun i hd xs hi hx => ⟨(h3 i hd xs hi hx).1, own_keep' (h3 i hd xs hi hx).2 hb⟩, h4, h5⟩
theorem ownBlock_slice (A : Option Addr) (n c : Nat) : (Value.slice A n c).ownBlock = A.map (·.block) := by cases A <;> rfl
theorem OwnN.only {T : Type} {S : Nat → Prop} {w w' : World} {b : Nat} {te t : TypeId} {size : Nat} {cells : T → List Value} {A : Option Addr} {c : Nat} {hs : List Hd} {xss : List (List T)} (h : OwnN w b te t size cells A c hs xss) (ho : Only S w w') (hne : ∀ k, S k → k < b) : OwnN w' b te t size cells A c hs xss := by
  obtain ⟨h1, h2, h3, h4, h5⟩ := h
  have key : ∀ {e : TypeId} {sz n : Nat} {v : Value} {xs : List Value}, w.ownsRow b e sz v n xs → w'.ownsRow b e sz v n xs := fun o => ho.own o (fun k hk hS => by have := (own_block o hk).1; have := hne k hS; omega)
  exact ⟨key h1, h2, fun i hd xs hi hx => ⟨(h3 i hd xs hi hx).1, key (h3 i hd xs hi hx).2⟩, h4, h5⟩
theorem OwnN.base {T : Type} {w : World} {b b' : Nat} {te t : TypeId} {size : Nat} {cells : T → List Value} {A : Option Addr} {c : Nat} {hs : List Hd} {xss : List (List T)} (h : OwnN w b te t size cells A c hs xss) (hb : b' ≤ b) : OwnN w b' te t size cells A c hs xss := by
  obtain ⟨h1, h2, h3, h4, h5⟩ := h
  exact ⟨own_base h1 hb, h2, fun i hd xs hi hx => ⟨(h3 i hd xs hi hx).1, own_base (h3 i hd xs hi hx).2 hb⟩, h4, h5⟩
theorem OwnN.nil {T : Type} (w : World) (b : Nat) (te t : TypeId) (size : Nat) (cells : T → List Value) : OwnN w b te t size cells none 0 [] ([] : List (List T)) :=
  ⟨⟨rfl, .inl ⟨rfl, rfl⟩⟩, rfl, fun i h xs hi => by simp at hi, fun i j h h' _ hi => by simp at hi, fun i h hi => by simp at hi⟩

/-- The blocks of lists that are not empty. -/
def inHs (hs : List Hd) (n : Nat) (k : Nat) : Prop := ∃ (i : Nat) (h : Hd), i < n ∧ hs[i]? = some h ∧ 0 < h.2.1 ∧ h.1.map (·.block) = some k
end Go.Proofs.YtkehmelcecifdaaDoor
