/-
  A bottle and a number: its cells. No condition.
-/
import Derived.Test.YtmfdgpinohbckaaDoorL
import Derived.Test.YtmfdgpinohbckaaDoorFlat
namespace Go.Proofs.YtmfdgpinohbckaaDoor
open Go.ChangeShapes Go.WideShapes Go.ChangeAt Go.RowKit Go.Deep

/-- A want: a bottle and a number. -/
abbrev Wnt := Bot × Int
def wfW (x : Wnt) : Prop := wfB x.1 ∧ -32768 ≤ x.2 ∧ x.2 ≤ 32767
def wcells (x : Wnt) : List Value := [.int .u8 x.1.1, .int .i16 x.1.2, .int .i16 x.2]
theorem wcells_length (x : Wnt) : (wcells x).length = 3 := rfl
theorem wcells_one (x : Wnt) : (wcells x).toArray.all (·.oneCell') = true := all_one (by intro v hv; simp only [wcells, List.mem_cons, List.not_mem_nil, or_false] at hv; rcases hv with rfl | rfl | rfl <;> rfl)
theorem wcells_of (cs : List Value) (h : FitsL [.u8, .i16, .i16] cs) : ∃ b, wfW b ∧ cs = wcells b := by
  match cs, h.length, h with
  | [c0, c1, c2], _, h =>
    obtain ⟨⟨k, rfl, hk⟩, ⟨y, rfl, hy⟩, ⟨n, rfl, hn⟩, _⟩ := h
    have hk := wf_u8 hk
    have hy := wf_i16 hy
    have hn := wf_i16 hn
    exact ⟨((k, y), n), ⟨⟨hk.1, hk.2, hy.1, hy.2⟩, hn.1, hn.2⟩, rfl⟩
end Go.Proofs.YtmfdgpinohbckaaDoor
