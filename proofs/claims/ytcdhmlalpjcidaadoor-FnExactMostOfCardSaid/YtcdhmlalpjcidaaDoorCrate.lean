/-
  A block that is a crate: its cells are those of a list of bottles; how it is read and written. No condition of its own.
-/
import Derived.Test.YtcdhmlalpjcidaaDoorOpen
import Derived.Laws.Rows
import Derived.Below
namespace Go.Proofs.YtcdhmlalpjcidaaDoor
open Go.RowKit

/-- Block B is just the cells of the bottles X, of element type t, none frozen. -/
def CBlk (w : World) (B : Nat) (t : TypeId) (X : List Bot) : Prop := w.heap[B]? = some (.cells (ccells X).toArray t (0, 0))

theorem CBlk.lt {w : World} {B : Nat} {t : TypeId} {X : List Bot} (h : CBlk w B t X) : B < w.heap.size := (Array.getElem?_eq_some_iff.1 h).1
theorem CBlk.below {w w' : World} {B N : Nat} {t : TypeId} {X : List Bot} (h : CBlk w B t X) (hb : Below N w w') (hN : B < N) : CBlk w' B t X := (hb.block B hN).trans h
theorem CBlk.new (w : World) (t : TypeId) (X : List Bot) : CBlk (w.alloc (.cells (ccells X).toArray t)) w.heap.size t X := heap_alloc_new w _
theorem CBlk.new' {w : World} {B : Nat} {cs : Array Value} {t : TypeId} {X : List Bot} (hB : B = w.heap.size) (hc : cs = (ccells X).toArray) : CBlk (w.alloc (.cells cs t)) B t X := by
  subst hB; subst hc; exact CBlk.new w t X
theorem CBlk.alloc {w : World} {B : Nat} {t : TypeId} {X : List Bot} (h : CBlk w B t X) (o : Obj) : CBlk (w.alloc o) B t X := (Below.heap_alloc w o _ h.lt).trans h
theorem CBlk.drew {w : World} {B : Nat} {t : TypeId} {X : List Bot} (h : CBlk w B t X) : CBlk w.drew B t X := h
theorem CBlk.cell {w : World} {B : Nat} {t : TypeId} {X : List Bot} (h : CBlk w B t X) (j : Nat) : w.cell? ⟨B, j, none⟩ = (ccells X)[j]? := by
  rw [cell_of_row w B j _ t _ h]; simp
theorem CBlk.frozen {w : World} {B : Nat} {t : TypeId} {X : List Bot} (h : CBlk w B t X) (j : Nat) : w.frozen? ⟨B, j, none⟩ = false := by
  unfold CBlk at h
  simp [World.frozen?, h]
theorem CBlk.kind {w : World} {B : Nat} {t : TypeId} {X : List Bot} (h : CBlk w B t X) (k : Nat) (hk : k < X.length) : w.cell? ⟨B, k * 2, none⟩ = some (.int .u8 (X[k]'hk).1) := by rw [Nat.mul_comm]; exact (h.cell _).trans (ccells_even X k hk)
theorem CBlk.year {w : World} {B : Nat} {t : TypeId} {X : List Bot} (h : CBlk w B t X) (k : Nat) (hk : k < X.length) : w.cell? ⟨B, k * 2 + 1, none⟩ = some (.int .i16 (X[k]'hk).2) := by rw [Nat.mul_comm]; exact (h.cell _).trans (ccells_odd X k hk)

theorem ccells_set (X : List Bot) (k : Nat) (b : Bot) (h : k < X.length) : ((ccells X).set (2 * k) (.int .u8 b.1)).set (2 * k + 1) (.int .i16 b.2) = ccells (X.set k b) := by
  induction X generalizing k with
  | nil => simp at h
  | cons c X ih =>
    cases k with
    | zero => rfl
    | succ k =>
      have e := ih k (by simpa using h)
      have e1 : ccells (c :: X) = .int .u8 c.1 :: .int .i16 c.2 :: ccells X := rfl
      have e2 : ccells ((c :: X).set (k + 1) b) = .int .u8 c.1 :: .int .i16 c.2 :: ccells (X.set k b) := rfl
      rw [e1, e2, ← e, show 2 * (k + 1) = 2 * k + 1 + 1 from by omega]
      rfl

theorem CBlk.set {w : World} {B : Nat} {t : TypeId} {X : List Bot} (h : CBlk w B t X) (k : Nat) (hk : k < X.length) (b : Bot) :
    CBlk ((w.setCell ⟨B, k * 2, none⟩ (.int .u8 b.1)).setCell ⟨B, k * 2 + 1, none⟩ (.int .i16 b.2)) B t (X.set k b) := by
  rw [Nat.mul_comm]
  unfold CBlk at h ⊢
  have hlt := (Array.getElem?_eq_some_iff.1 h).1
  have hg := (Array.getElem?_eq_some_iff.1 h).2
  simp only [World.setCell, Array.getElem?_modify, if_true]
  rw [h]
  simp only [Option.map_some, Option.some.injEq]
  rw [← ccells_set X k b hk]
  simp
theorem CBlk.other {w : World} {B B' : Nat} {t : TypeId} {X : List Bot} (h : CBlk w B t X) (hne : B ≠ B') (j : Nat) (u : Value) : CBlk (w.setCell ⟨B', j, none⟩ u) B t X :=
  (Below.heap_setCell w ⟨B', j, none⟩ u B hne).trans h
theorem CBlk.setRow {w : World} {B : Nat} {t : TypeId} {X Y : List Bot} (h : CBlk w B t X) : CBlk (w.setRow B (ccells Y).toArray) B t Y := setRow_heap w B _ _ t _ h
theorem Below.setRow {N : Nat} {a w : World} (h : Below N a w) (g : Nat) (cs : Array Value) (hg : N ≤ g) : Below N a (w.setRow g cs) :=
  h.trans ⟨rfl, rfl, rfl, by simp, fun k hk => setRow_other w g k cs (by omega)⟩
theorem ccells_size (X : List Bot) (h : X.length = 12) : (ccells X).toArray.size = 24 := by simp [ccells_length, h]
theorem ccells_one (X : List Bot) : (ccells X).toArray.all (·.oneCell') = true := by
  rw [Array.all_eq_true_iff_forall_mem]
  intro x hx
  simp only [List.mem_toArray, ccells, List.mem_flatMap] at hx
  obtain ⟨b, _, hb⟩ := hx
  simp only [bcells, List.mem_cons, List.not_mem_nil, or_false] at hb
  rcases hb with rfl | rfl <;> rfl
theorem list_eq_of {X Y : List Bot} (hx : X.length = 12) (hy : Y.length = 12) (h : ∀ j, j < 12 → X[j]? = Y[j]?) : X = Y := by
  apply List.ext_getElem?
  intro j
  by_cases hj : j < 12
  · exact h j hj
  · rw [List.getElem?_eq_none (by omega), List.getElem?_eq_none (by omega)]
end Go.Proofs.YtcdhmlalpjcidaaDoor
