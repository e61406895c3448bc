/-
  No cell of these rows narrows 'for every input' (looked for: loops, veiled, ifaces, maps, wideKeys, modest, calm, conditions, laid).
  DERIVED. THE GIVEN ROWS OF THIS SEAT. 5 by the template 'for every input the law returns true; each argument reads behind the call as it read before'; 0 by the template 'total and deterministic' (their statements: YtcmeaiejnghpeaaTotals.lean).
  GIVEN WITH THE SEED: the statements are not yours to turn. If you find one false, say at which input.
  Laid BY PROGRAM, IN A SANDBOX (cutbox-rows.mjs): the forced cells as the released guide's own fill.sh prints them over the translation ec689ca4e4243f66… (all of the seat's roots in one cut). By AI agents, Wed Nov 11 2026. No macro, syntax, notation, axiom, sorry.
-/
import Derived.Test.YtcmeaiejnghpeaaChecked
import GoSem.Claim
import GoSem.ClaimJoined
import GoSem.ClaimMapViews
import Derived.JoinedTies
import Derived.KernelRfl
namespace Go.Proofs.Ytcmeaiejnghpeaa
/- THE CELL 'sum', in the pinned program and in every row, IS THE sha256 OF THE DUMP (.gsa) THAT YtcmeaiejnghpeaaProg.lean LOADS. Nothing in Lean hashes anything: it is a label: what it is worth is what the hold of that sum in a sandbox is worth. -/
noncomputable def Try.pinned : Pinned := { name := "ytcmeaiejnghpeaa", sum := "ec689ca4e4243f663abdae383ad439832b9e752ce6acaec4267bb89b6428ee6b", checked := Try.checked }
namespace Rows
def none {H : Type} : Left H := { results := [], args := [] }

/-- 'laws.FnExactCodeName': WHATEVER THE INPUT: true; the input reads as it did. -/
def fnExactCodeNameSpec : ChangeSpec := { name := "fnExactCodeName", fn := fun _ => fun
  | [d] => { results := [.lit (.bool true)], args := [d] }
  | _ => none }
def fnExactCodeNameRow : OpenClaim := { program := "ytcmeaiejnghpeaa", sum := "ec689ca4e4243f663abdae383ad439832b9e752ce6acaec4267bb89b6428ee6b", func := "loop.example/g01353/laws.FnExactCodeName", spec := "fnExactCodeName", apart := false }
def FnExactCodeNameSaid : Prop := fnExactCodeNameRow.holds Try.pinned (OpenSpec.ofChange fnExactCodeNameSpec)

/-- ITS FALSE NEIGHBOUR: 'it returns false'. Refute it at one input. -/
def fnExactCodeNameWrong : ChangeSpec := { name := "fnExactCodeName", fn := fun _ => fun
  | [d] => { results := [.lit (.bool false)], args := [d] }
  | _ => none }
def FnExactCodeNameWrongFalsely : Prop := fnExactCodeNameRow.holds Try.pinned (OpenSpec.ofChange fnExactCodeNameWrong)

/-- 'laws.FnExactValidBottle': WHATEVER THE INPUT: true; the input reads as it did. -/
def fnExactValidBottleSpec : ChangeSpec := { name := "fnExactValidBottle", fn := fun _ => fun
  | [d] => { results := [.lit (.bool true)], args := [d] }
  | _ => none }
def fnExactValidBottleRow : OpenClaim := { program := "ytcmeaiejnghpeaa", sum := "ec689ca4e4243f663abdae383ad439832b9e752ce6acaec4267bb89b6428ee6b", func := "loop.example/g01353/laws.FnExactValidBottle", spec := "fnExactValidBottle", apart := false }
def FnExactValidBottleSaid : Prop := fnExactValidBottleRow.holds Try.pinned (OpenSpec.ofChange fnExactValidBottleSpec)

/-- ITS FALSE NEIGHBOUR: 'it returns false'. Refute it at one input. -/
def fnExactValidBottleWrong : ChangeSpec := { name := "fnExactValidBottle", fn := fun _ => fun
  | [d] => { results := [.lit (.bool false)], args := [d] }
  | _ => none }
def FnExactValidBottleWrongFalsely : Prop := fnExactValidBottleRow.holds Try.pinned (OpenSpec.ofChange fnExactValidBottleWrong)

/-- 'laws.FnExactValidCrate': WHATEVER THE INPUT: true; the input reads as it did. -/
def fnExactValidCrateSpec : ChangeSpec := { name := "fnExactValidCrate", fn := fun _ => fun
  | [d] => { results := [.lit (.bool true)], args := [d] }
  | _ => none }
def fnExactValidCrateRow : OpenClaim := { program := "ytcmeaiejnghpeaa", sum := "ec689ca4e4243f663abdae383ad439832b9e752ce6acaec4267bb89b6428ee6b", func := "loop.example/g01353/laws.FnExactValidCrate", spec := "fnExactValidCrate", unfollowed := true, recurses := true, apart := false }
def FnExactValidCrateSaid : Prop := fnExactValidCrateRow.holds Try.pinned (OpenSpec.ofChange fnExactValidCrateSpec)

/-- ITS FALSE NEIGHBOUR: 'it returns false'. Refute it at one input. -/
def fnExactValidCrateWrong : ChangeSpec := { name := "fnExactValidCrate", fn := fun _ => fun
  | [d] => { results := [.lit (.bool false)], args := [d] }
  | _ => none }
def FnExactValidCrateWrongFalsely : Prop := fnExactValidCrateRow.holds Try.pinned (OpenSpec.ofChange fnExactValidCrateWrong)

/-- 'laws.FnExactValidStack': WHATEVER THE INPUT: true; the input reads as it did. -/
def fnExactValidStackSpec : ChangeSpec := { name := "fnExactValidStack", fn := fun _ => fun
  | [d] => { results := [.lit (.bool true)], args := [d] }
  | _ => none }
def fnExactValidStackRow : OpenClaim := { program := "ytcmeaiejnghpeaa", sum := "ec689ca4e4243f663abdae383ad439832b9e752ce6acaec4267bb89b6428ee6b", func := "loop.example/g01353/laws.FnExactValidStack", spec := "fnExactValidStack", unfollowed := true, recurses := true, apart := false }
def FnExactValidStackSaid : Prop := fnExactValidStackRow.holds Try.pinned (OpenSpec.ofChange fnExactValidStackSpec)

/-- ITS FALSE NEIGHBOUR: 'it returns false'. Refute it at one input. -/
def fnExactValidStackWrong : ChangeSpec := { name := "fnExactValidStack", fn := fun _ => fun
  | [d] => { results := [.lit (.bool false)], args := [d] }
  | _ => none }
def FnExactValidStackWrongFalsely : Prop := fnExactValidStackRow.holds Try.pinned (OpenSpec.ofChange fnExactValidStackWrong)

/-- 'laws.FnExactSameStack': WHATEVER THE INPUT: true; the input reads as it did. -/
def fnExactSameStackSpec : ChangeSpec := { name := "fnExactSameStack", fn := fun _ => fun
  | [d1, d2] => { results := [.lit (.bool true)], args := [d1, d2] }
  | _ => none }
def fnExactSameStackRow : OpenClaim := { program := "ytcmeaiejnghpeaa", sum := "ec689ca4e4243f663abdae383ad439832b9e752ce6acaec4267bb89b6428ee6b", func := "loop.example/g01353/laws.FnExactSameStack", spec := "fnExactSameStack", apart := false }
def FnExactSameStackSaid : Prop := fnExactSameStackRow.holds Try.pinned (OpenSpec.ofChange fnExactSameStackSpec)

/-- ITS FALSE NEIGHBOUR: 'it returns false'. Refute it at one input. -/
def fnExactSameStackWrong : ChangeSpec := { name := "fnExactSameStack", fn := fun _ => fun
  | [d1, d2] => { results := [.lit (.bool false)], args := [d1, d2] }
  | _ => none }
def FnExactSameStackWrongFalsely : Prop := fnExactSameStackRow.holds Try.pinned (OpenSpec.ofChange fnExactSameStackWrong)

/- THE SECOND FORM. 'bulk': how many values and letters a reading holds, each counted each time it is reached (what is shared counts as often as it is met; a slice's spare places count too). A statement '..UptoSaid' is the law's where the arguments, and the package variables that the reading takes, are together of bulk at most 1048576: NARROWER than '..Said'. Prove '..Said' where nothing that the law and all that it calls make is longer than what came in: it says more and counts as full. Else prove '..UptoSaid'. A law counts once. -/
mutual
def uptoBulk {H : Type} : DataW H → Nat
  | .lit (.string bytes) => bytes.length + 1
  | .lit _ => 1
  | .nil => 1
  | .ptr d => uptoBulk d + 1
  | .slice elems spare => uptoBulkAll elems + uptoBulkAll spare + 1
  | .agg parts => uptoBulkAll parts + 1
  | .iface _ d => uptoBulk d + 1
  | .map entries => uptoBulkEntries entries + 1
  | .held _ => 1
def uptoBulkAll {H : Type} : List (DataW H) → Nat
  | [] => 0
  | d :: r => uptoBulk d + uptoBulkAll r
def uptoBulkEntries {H : Type} : List (Lit × DataW H) → Nat
  | [] => 0
  | x :: r => uptoBulkEntry x + uptoBulkEntries r
def uptoBulkEntry {H : Type} : Lit × DataW H → Nat
  | (.string bytes, d) => bytes.length + uptoBulk d + 1
  | (_, d) => uptoBulk d + 1
 end
def uptoSmall : (H : Type) → List (DataW H) → Bool := fun _ ds => decide (uptoBulkAll ds ≤ 1048576)
def OpenSpec.upto (s : _root_.Go.ChangeSpec) : _root_.Go.OpenSpec := { _root_.Go.OpenSpec.ofChange s with cond := some uptoSmall }

/-- 'laws.FnExactCodeName', WHERE WHAT IT READS IS OF BULK AT MOST 1048576: true; the input reads as it did. -/
def fnExactCodeNameUptoRow : OpenClaim := { program := "ytcmeaiejnghpeaa", sum := "ec689ca4e4243f663abdae383ad439832b9e752ce6acaec4267bb89b6428ee6b", func := "loop.example/g01353/laws.FnExactCodeName", spec := "fnExactCodeName", apart := false, narrowed := true }
def FnExactCodeNameUptoSaid : Prop := fnExactCodeNameUptoRow.holds Try.pinned (OpenSpec.upto fnExactCodeNameSpec)

/-- 'laws.FnExactValidBottle', WHERE WHAT IT READS IS OF BULK AT MOST 1048576: true; the input reads as it did. -/
def fnExactValidBottleUptoRow : OpenClaim := { program := "ytcmeaiejnghpeaa", sum := "ec689ca4e4243f663abdae383ad439832b9e752ce6acaec4267bb89b6428ee6b", func := "loop.example/g01353/laws.FnExactValidBottle", spec := "fnExactValidBottle", apart := false, narrowed := true }
def FnExactValidBottleUptoSaid : Prop := fnExactValidBottleUptoRow.holds Try.pinned (OpenSpec.upto fnExactValidBottleSpec)

/-- 'laws.FnExactValidCrate', WHERE WHAT IT READS IS OF BULK AT MOST 1048576: true; the input reads as it did. -/
def fnExactValidCrateUptoRow : OpenClaim := { program := "ytcmeaiejnghpeaa", sum := "ec689ca4e4243f663abdae383ad439832b9e752ce6acaec4267bb89b6428ee6b", func := "loop.example/g01353/laws.FnExactValidCrate", spec := "fnExactValidCrate", unfollowed := true, recurses := true, apart := false, narrowed := true }
def FnExactValidCrateUptoSaid : Prop := fnExactValidCrateUptoRow.holds Try.pinned (OpenSpec.upto fnExactValidCrateSpec)

/-- 'laws.FnExactValidStack', WHERE WHAT IT READS IS OF BULK AT MOST 1048576: true; the input reads as it did. -/
def fnExactValidStackUptoRow : OpenClaim := { program := "ytcmeaiejnghpeaa", sum := "ec689ca4e4243f663abdae383ad439832b9e752ce6acaec4267bb89b6428ee6b", func := "loop.example/g01353/laws.FnExactValidStack", spec := "fnExactValidStack", unfollowed := true, recurses := true, apart := false, narrowed := true }
def FnExactValidStackUptoSaid : Prop := fnExactValidStackUptoRow.holds Try.pinned (OpenSpec.upto fnExactValidStackSpec)

/-- 'laws.FnExactSameStack', WHERE WHAT IT READS IS OF BULK AT MOST 1048576: true; the input reads as it did. -/
def fnExactSameStackUptoRow : OpenClaim := { program := "ytcmeaiejnghpeaa", sum := "ec689ca4e4243f663abdae383ad439832b9e752ce6acaec4267bb89b6428ee6b", func := "loop.example/g01353/laws.FnExactSameStack", spec := "fnExactSameStack", apart := false, narrowed := true }
def FnExactSameStackUptoSaid : Prop := fnExactSameStackUptoRow.holds Try.pinned (OpenSpec.upto fnExactSameStackSpec)

end Rows
end Go.Proofs.Ytcmeaiejnghpeaa
