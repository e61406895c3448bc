/-
  The contracts of the model's ValidCrate and of what it calls. No condition but the crate's length and that its numbers fit their kinds.
-/
import Derived.Test.YtmfdgpinohbckaaDoorC
import Derived.WalkKit
import Derived.Lib.Hide
namespace Go.Proofs.YtmfdgpinohbckaaDoor
open Go.ChangeShapes Go.WideShapes Go.ChangeAt Go.RowKit

/-- Is a place of a crate in order? -/
def okB (b : Bot) : Bool := eB b || vB b
/-- Is a crate valid? -/
def okC (bs : List Bot) : Bool := bs.all okB
def OkTo (bs : List Bot) (k : Nat) : Prop := ∀ j b, j < k → bs[j]? = some b → okB b = true
theorem OkTo.step {bs : List Bot} {k : Nat} (h : OkTo bs k) {b : Bot} (hb : bs[k]? = some b) (ho : okB b = true) : OkTo bs (k + 1) := by
  intro j c hj hc
  by_cases e : j = k
  · subst e; rw [hb] at hc; cases hc; exact ho
  · exact h j c (by omega) hc
theorem OkTo.all {bs : List Bot} (h : OkTo bs bs.length) : okC bs = true := by
  unfold okC
  rw [List.all_eq_true]
  intro b hb
  obtain ⟨j, hj, rfl⟩ := List.mem_iff_getElem.1 hb
  exact h j _ hj (List.getElem?_eq_getElem hj)
theorem okC_no {bs : List Bot} {k : Nat} {b : Bot} (hb : bs[k]? = some b) (ho : okB b = false) : okC bs = false := by
  unfold okC
  rw [List.all_eq_false]
  exact ⟨b, List.mem_of_getElem? hb, by simp [ho]⟩
def WfC (bs : List Bot) : Prop := bs.length = 12 ∧ ∀ b ∈ bs, wfB b
theorem WfC.at_ {bs : List Bot} (h : WfC bs) {k : Nat} (hk : k < 12) : ∃ k1 y1, bs[k]? = some (k1, y1) ∧ (0 ≤ k1 ∧ k1 ≤ 255) ∧ (-32768 ≤ y1 ∧ y1 ≤ 32767) := by
  have hk' : k < bs.length := by rw [h.1]; exact hk
  obtain ⟨a, b, c, d⟩ := h.2 _ (List.getElem_mem hk')
  exact ⟨bs[k].1, bs[k].2, List.getElem?_eq_getElem hk', ⟨a, b⟩, ⟨c, d⟩⟩
theorem CBlk.kind' {w : World} {B : Nat} {t : TypeId} {X : List Bot} (h : CBlk w B t X) {k : Nat} {k1 y1 : Int} (hk : X[k]? = some (k1, y1)) : w.cell? ⟨B, k * 2, none⟩ = some (.int .u8 k1) := by
  obtain ⟨hlt, he⟩ := List.getElem?_eq_some_iff.1 hk
  rw [h.kind k hlt, he]
theorem CBlk.year' {w : World} {B : Nat} {t : TypeId} {X : List Bot} (h : CBlk w B t X) {k : Nat} {k1 y1 : Int} (hk : X[k]? = some (k1, y1)) : w.cell? ⟨B, k * 2 + 1, none⟩ = some (.int .i16 y1) := by
  obtain ⟨hlt, he⟩ := List.getElem?_eq_some_iff.1 hk
  rw [h.year k hlt, he]

end Go.Proofs.YtmfdgpinohbckaaDoor
