/-
  All bottles of a crate; the contract of the model's l01All. No condition but the crate's length and that its numbers fit their kinds.
-/
import Derived.Test.YtpjmkcgofmfdaaaDoorM
import Derived.Test.YtpjmkcgofmfdaaaDoorV
import Derived.Test.YtpjmkcgofmfdaaaDoorW
import Derived.OwnWalk
import Derived.Laws.AppendOwn
import Derived.Laws.MakeOwn
import Derived.Maps.AppendAt
namespace Go.Proofs.YtpjmkcgofmfdaaaDoor
open Go.ChangeShapes Go.WideShapes Go.ChangeAt Go.RowKit

theorem Tryd.infoBt : (Tryd.prog.info? 45).map (fun i => (i.zero, i.size, i.bytes)) = some (some (.agg #[.int .u8 0, .int .i16 0]), 2, 4) := by kernel_rfl
/-- All bottles in the first k places. -/
def allB (bs : List Bot) (k : Nat) : List Bot := (usedN bs (fun b => !eB b) k).map fun j => bs.getD j (0, 0)
theorem allB_yes {bs : List Bot} {k : Nat} {b : Bot} (h : bs[k]? = some b) (he : eB b = false) : allB bs (k + 1) = allB bs k ++ [b] := by
  have : (bs[k]?.any fun b => !eB b) = true := by rw [h]; simp [he]
  simp [allB, usedN_yes this, h]
theorem allB_no {bs : List Bot} {k : Nat} {b : Bot} (h : bs[k]? = some b) (he : eB b = true) : allB bs (k + 1) = allB bs k := by
  have : (bs[k]?.any fun b => !eB b) = false := by rw [h]; simp [he]
  simp [allB, usedN_no this]
theorem allB_length (bs : List Bot) (k : Nat) : (allB bs k).length ≤ k := by rw [allB, List.length_map]; exact usedN_length _ _ _
theorem ccells_snoc (X : List Bot) (b : Bot) : ccells (X ++ [b]) = ccells X ++ [.int .u8 b.1, .int .i16 b.2] := by simp [ccells, bcells]
theorem cell_two_new (W : World) (u v : Value) (t : TypeId) : ∀ (j : Nat) (x : Value), [u, v][j]? = some x → (W.alloc (.cells #[u, v] t)).cell? ((⟨W.heap.size, 0, none⟩ : Addr).add j) = some x := by
  intro j x hx
  have h := new_cell2 W u v t
  match j, hx with
  | 0, hx => simp at hx; subst hx; exact h.1
  | 1, hx => simp at hx; subst hx; simp [Addr.add]
theorem two_one (k y : Int) : ∀ u ∈ [Value.int .u8 k, Value.int .i16 y], u.oneCell' = true := by
  intro u hu
  simp only [List.mem_cons, List.not_mem_nil, or_false] at hu
  rcases hu with rfl | rfl <;> rfl

end Go.Proofs.YtpjmkcgofmfdaaaDoor
