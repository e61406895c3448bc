/-
  What a map of numbers reads as. No program in it.
-/
import Derived.Test.YtlfamfdgphhbcabDoorMe
import Derived.Test.YtlfamfdgphhbcabDoorFlat
namespace Go.Proofs.YtlfamfdgphhbcabDoor
open Go.ChangeShapes Go.WideShapes Go.ChangeAt Go.RowKit Go.Deep

def i64L (n : Nat) : DataW Unit := .lit (.int .i64 (n : Int))
/-- A map reads as the numbers f, and holds nothing where f is 0. -/
def Holds (D : DataW Unit) {α : Type} (ok : α → Prop) (key : α → Lit) (f : α → Nat) : Prop := ∀ x, ok x → ∀ zd, D.atKey (key x) zd = if f x = 0 then zd else i64L (f x)
theorem Holds.empty {α : Type} (ok : α → Prop) (key : α → Lit) : Holds (.map []) ok key (fun _ => 0) := fun _ _ _ => rfl
theorem Holds.look {D : DataW Unit} {α : Type} {ok : α → Prop} {key : α → Lit} {f : α → Nat} (h : Holds D ok key f) {x : α} (hx : ok x) {c : Int} (hc : D.atKey (key x) (.lit (.int .i64 0)) = .lit (.int .i64 c)) : c = f x := by
  have := h x hx (.lit (.int .i64 0))
  rw [hc] at this
  by_cases h0 : f x = 0
  · rw [if_pos h0] at this
    simp only [DataW.lit.injEq, Lit.int.injEq, true_and] at this
    rw [this, h0]; rfl
  · rw [if_neg h0] at this
    simp only [i64L, DataW.lit.injEq, Lit.int.injEq, true_and] at this
    exact this
theorem Holds.put {D : DataW Unit} {α : Type} {ok : α → Prop} {key : α → Lit} {f g : α → Nat} (h : Holds D ok key f) (hm : Maps.IsMap D) (hinj : ∀ x y, ok x → ok y → key x = key y → x = y) {x : α} (hx : ok x) (hk : WideAt.IsKeyLit (key x)) {n : Nat} (hn : n ≠ 0)
    (hg : g x = n) (ho : ∀ y, y ≠ x → g y = f y) : Holds (D.put (key x) (.lit (.int .i64 (n : Int)))) ok key g := by
  intro y hy zd
  by_cases e : y = x
  · subst e
    rw [Maps.atKey_put_same hm hk, hg, if_neg hn]; rfl
  · rw [Maps.atKey_put_other (fun h' => e (hinj _ _ hy hx h')), ho y e]
    exact h y hy zd
theorem Holds.has {D : DataW Unit} {α : Type} {ok : α → Prop} {key : α → Lit} {f : α → Nat} (h : Holds D ok key f) {x : α} (hx : ok x) (h0 : f x ≠ 0) : Maps.has D (key x) = true :=
  Maps.has_true_of_atKey (y := i64L (f x)) (fun z => by rw [h x hx z, if_neg h0])
theorem Holds.congr {D : DataW Unit} {α : Type} {ok : α → Prop} {key : α → Lit} {f g : α → Nat} (h : Holds D ok key f) (e : ∀ x, ok x → f x = g x) : Holds D ok key g := fun x hx zd => by rw [h x hx zd, e x hx]

theorem size_ownsMap {P : Program} {k : TypeId} {R : Value → Option (DataW Unit × List MemPlace)} {w : World} {b n : Nat} {D : DataW Unit} (h : w.ownsMap P k R b n D) : Maps.size D ≤ n ∧ Maps.IsMap D := by
  obtain ⟨es, clock, hb, F, hs, rfl⟩ := h
  refine ⟨?_, ⟨_, rfl⟩⟩
  rw [Maps.size_eq, length_sorted]
  simpa using hs
theorem Below.growMap {N : Nat} {w w1 w2 : World} {b : Nat} (h : Below N w w1) (hg : w1.grownBy w2 (some b)) (hN : N ≤ w1.heap.size) (hb : N ≤ b) : Below N w w2 := h.grown hg hN (fun j hj => by cases hj; exact hb)
end Go.Proofs.YtlfamfdgphhbcabDoor
