/-
  The contracts of the model's SwapPlaces, l03All, SwapAll. Condition: the crate's length, that its numbers and those of the swaps fit their kinds.
-/
import Derived.Test.YtaigimdehlclfaaDoorSp
namespace Go.Proofs.YtaigimdehlclfaaDoor
open Go.ChangeShapes Go.WideShapes Go.ChangeAt Go.RowKit Go.Deep

theorem results_ctS {P : Program} {fn : Func} {p q : Tmp} {ty : TypeId} {v2 : Value} (h : fn.results = #[.cell p ty, .tmp q]) (tmps : Array Value) (hq : tmps.getD q undef = v2) (w : World) (g : Nat) (t : TypeId) (cs : Array Value) (fr : Nat × Nat) (d : TypeDesc)
    (hp : tmps.getD p undef = .pointer (some ⟨g, 0, none⟩)) (hg : w.heap[g]? = some (.cells cs t fr))
    (hu : P.underlying ty = some d) (hd : (match d with | .struct _ | .array _ _ => true | _ => false) = true) (hi : (P.info? ty).map (·.size) = some cs.size) :
    (results fn tmps).run P w = .ok (.tuple #[.agg cs, v2]) w := by
  subst hq
  have hp' : tmps[p]?.getD undef = .pointer (some ⟨g, 0, none⟩) := by simpa using hp
  simp [results, h, hp', asAddr, run_loadVar_row w g t ty cs fr d hg hu hd hi]
theorem rowS {w : World} {b o : Nat} {x y : Int} (h : w.rangeAt b o (scells (x, y))) : w.cell? ⟨b, o, none⟩ = some (.int .i8 x) ∧ w.cell? ⟨b, o + 1, none⟩ = some (.int .i8 y) :=
  ⟨h 0 _ rfl, h 1 _ rfl⟩

/-- What stands between two rounds of l03All. -/
def SA (bs : List Bot) (xs : List Swp) (w : World) (k : Nat) (wr : World) : Prop :=
  CanTo xs k ∧ CBlk wr w.heap.size 30 (swTo bs xs k) ∧ CBlk wr (w.heap.size + 1) 30 noB ∧ Below w.heap.size w wr

end Go.Proofs.YtaigimdehlclfaaDoor
