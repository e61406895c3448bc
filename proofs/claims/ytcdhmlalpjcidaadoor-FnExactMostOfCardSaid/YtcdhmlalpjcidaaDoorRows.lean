/-
  NARROWER THAN 'FOR EVERY INPUT', by the rows' own cells (each row's printed sentence says how): FnExactMostOf: ifaces, laid · FnExactTakeOut: ifaces, laid · FnExactOpenBound: ifaces, laid · FnExactFewestOpen: ifaces, laid.
  DERIVED. THE GIVEN ROWS OF THIS SEAT. 4 by the template 'for every input the law returns true; each argument reads behind the call as it read before'; 0 by the template 'total and deterministic' (their statements: YtcdhmlalpjcidaaDoorTotals.lean).
  GIVEN WITH THE SEED: the statements are not yours to turn. If you find one false, say at which input.
  Laid BY PROGRAM, IN A SANDBOX (cutbox-rows.mjs): the forced cells as the released guide's own fill.sh prints them over the translation 0f4c36948902c9ce… (all of the seat's roots in one cut). By AI agents, Wed Nov 11 2026. No macro, syntax, notation, axiom, sorry.
-/
import Derived.Test.YtcdhmlalpjcidaaDoorChecked
import GoSem.Claim
import GoSem.ClaimJoined
import GoSem.ClaimMapViews
import Derived.JoinedTies
import Derived.KernelRfl
namespace Go.Proofs.YtcdhmlalpjcidaaDoor
/- THE CELL 'sum', in the pinned program and in every row, IS THE sha256 OF THE DUMP (.gsa) THAT YtcdhmlalpjcidaaDoorProg.lean LOADS. Nothing in Lean hashes anything: it is a label: what it is worth is what the hold of that sum in a sandbox is worth. -/
noncomputable def Tryd.pinned : Pinned := { name := "ytcdhmlalpjcidaadoor", sum := "0f4c36948902c9cef1b9727af600db726b0888c786e198a4ff93f47ec5ebfd23", checked := Tryd.checked }
namespace Rows
def none {H : Type} : Left H := { results := [], args := [] }

/- WHAT THE LISTED PACKAGE-LEVEL VARIABLES READ AS WHEN THE CALL BEGINS. Each datum BY PROGRAM (the guide's laid-datum.mjs) off the statement by which the dump's own 'gosem.cut.vars' lays the variable. In a bare row this is a premise. The card (YtcdhmlalpjcidaaDoorCards.lean) ties it to the program's text. -/
def laid_loop_example_g01353_impl_errInvalid {H : Type} : DataW H := .iface "*errors.errorString" (.ptr (.agg [.lit (.string [105, 110, 118, 97, 108, 105, 100])]))
def laid_loop_example_g01353_impl_errRange {H : Type} : DataW H := .iface "*errors.errorString" (.ptr (.agg [.lit (.string [114, 97, 110, 103, 101])]))
def laid_loop_example_g01353_impl_errLimit {H : Type} : DataW H := .iface "*errors.errorString" (.ptr (.agg [.lit (.string [108, 105, 109, 105, 116])]))
def laid_loop_example_g01353_impl_errState {H : Type} : DataW H := .iface "*errors.errorString" (.ptr (.agg [.lit (.string [115, 116, 97, 116, 101])]))
def laid_loop_example_g01353_impl_errSyntax {H : Type} : DataW H := .iface "*errors.errorString" (.ptr (.agg [.lit (.string [115, 121, 110, 116, 97, 120])]))
def laid_loop_example_g01353_impl_errNotFound {H : Type} : DataW H := .iface "*errors.errorString" (.ptr (.agg [.lit (.string [110, 111, 116, 102, 111, 117, 110, 100])]))
def laid_loop_example_g01353_impl_errProof {H : Type} : DataW H := .iface "*errors.errorString" (.ptr (.agg [.lit (.string [112, 114, 111, 111, 102])]))

/-- 'laws.FnExactMostOf': WHATEVER THE INPUT: true; the input reads as it did. -/
def fnExactMostOfSpec : ChangeSpec := { name := "fnExactMostOf", vars := ["loop.example/g01353/impl.errNotFound", "loop.example/g01353/impl.errInvalid", "loop.example/g01353/impl.errRange", "loop.example/g01353/impl.errLimit", "loop.example/g01353/impl.errState", "loop.example/g01353/impl.errSyntax", "loop.example/g01353/impl.errProof"], fn := fun _ => fun
  | [d, g1, g2, g3, g4, g5, g6, g7] => { results := [.lit (.bool true)], args := [d], vars := [g1, g2, g3, g4, g5, g6, g7] }
  | _ => none }
def fnExactMostOfRow : OpenClaim := { program := "ytcdhmlalpjcidaadoor", sum := "0f4c36948902c9cef1b9727af600db726b0888c786e198a4ff93f47ec5ebfd23", func := "loop.example/g01353/laws.FnExactMostOf", spec := "fnExactMostOf", inPlace := ["internal/reflectlite.TypeOf"], unfollowed := true, recurses := true, named := ["loop.example/g01353/impl.errNotFound", "loop.example/g01353/impl.errInvalid", "loop.example/g01353/impl.errRange", "loop.example/g01353/impl.errLimit", "loop.example/g01353/impl.errState", "loop.example/g01353/impl.errSyntax", "loop.example/g01353/impl.errProof"], ifaces := true, plainKeys := false, apart := false, laid := [("loop.example/g01353/impl.errInvalid", laid_loop_example_g01353_impl_errInvalid), ("loop.example/g01353/impl.errRange", laid_loop_example_g01353_impl_errRange), ("loop.example/g01353/impl.errLimit", laid_loop_example_g01353_impl_errLimit), ("loop.example/g01353/impl.errState", laid_loop_example_g01353_impl_errState), ("loop.example/g01353/impl.errSyntax", laid_loop_example_g01353_impl_errSyntax), ("loop.example/g01353/impl.errNotFound", laid_loop_example_g01353_impl_errNotFound), ("loop.example/g01353/impl.errProof", laid_loop_example_g01353_impl_errProof)] }
def FnExactMostOfSaid : Prop := fnExactMostOfRow.holds Tryd.pinned (OpenSpec.ofChange fnExactMostOfSpec)

/-- ITS FALSE NEIGHBOUR: 'it returns false'. Refute it at one input. -/
def fnExactMostOfWrong : ChangeSpec := { name := "fnExactMostOf", vars := ["loop.example/g01353/impl.errNotFound", "loop.example/g01353/impl.errInvalid", "loop.example/g01353/impl.errRange", "loop.example/g01353/impl.errLimit", "loop.example/g01353/impl.errState", "loop.example/g01353/impl.errSyntax", "loop.example/g01353/impl.errProof"], fn := fun _ => fun
  | [d, g1, g2, g3, g4, g5, g6, g7] => { results := [.lit (.bool false)], args := [d], vars := [g1, g2, g3, g4, g5, g6, g7] }
  | _ => none }
def FnExactMostOfWrongFalsely : Prop := fnExactMostOfRow.holds Tryd.pinned (OpenSpec.ofChange fnExactMostOfWrong)

/-- 'laws.FnExactTakeOut': WHATEVER THE INPUT: true; the input reads as it did. -/
def fnExactTakeOutSpec : ChangeSpec := { name := "fnExactTakeOut", vars := ["loop.example/g01353/impl.errState", "loop.example/g01353/impl.errInvalid", "loop.example/g01353/impl.errRange", "loop.example/g01353/impl.errLimit", "loop.example/g01353/impl.errSyntax", "loop.example/g01353/impl.errNotFound", "loop.example/g01353/impl.errProof"], fn := fun _ => fun
  | [d1, d2, d3, g1, g2, g3, g4, g5, g6, g7] => { results := [.lit (.bool true)], args := [d1, d2, d3], vars := [g1, g2, g3, g4, g5, g6, g7] }
  | _ => none }
def fnExactTakeOutRow : OpenClaim := { program := "ytcdhmlalpjcidaadoor", sum := "0f4c36948902c9cef1b9727af600db726b0888c786e198a4ff93f47ec5ebfd23", func := "loop.example/g01353/laws.FnExactTakeOut", spec := "fnExactTakeOut", inPlace := ["internal/reflectlite.TypeOf"], unfollowed := true, recurses := true, named := ["loop.example/g01353/impl.errState", "loop.example/g01353/impl.errInvalid", "loop.example/g01353/impl.errRange", "loop.example/g01353/impl.errLimit", "loop.example/g01353/impl.errSyntax", "loop.example/g01353/impl.errNotFound", "loop.example/g01353/impl.errProof"], ifaces := true, plainKeys := false, apart := false, laid := [("loop.example/g01353/impl.errInvalid", laid_loop_example_g01353_impl_errInvalid), ("loop.example/g01353/impl.errRange", laid_loop_example_g01353_impl_errRange), ("loop.example/g01353/impl.errLimit", laid_loop_example_g01353_impl_errLimit), ("loop.example/g01353/impl.errState", laid_loop_example_g01353_impl_errState), ("loop.example/g01353/impl.errSyntax", laid_loop_example_g01353_impl_errSyntax), ("loop.example/g01353/impl.errNotFound", laid_loop_example_g01353_impl_errNotFound), ("loop.example/g01353/impl.errProof", laid_loop_example_g01353_impl_errProof)] }
def FnExactTakeOutSaid : Prop := fnExactTakeOutRow.holds Tryd.pinned (OpenSpec.ofChange fnExactTakeOutSpec)

/-- ITS FALSE NEIGHBOUR: 'it returns false'. Refute it at one input. -/
def fnExactTakeOutWrong : ChangeSpec := { name := "fnExactTakeOut", vars := ["loop.example/g01353/impl.errState", "loop.example/g01353/impl.errInvalid", "loop.example/g01353/impl.errRange", "loop.example/g01353/impl.errLimit", "loop.example/g01353/impl.errSyntax", "loop.example/g01353/impl.errNotFound", "loop.example/g01353/impl.errProof"], fn := fun _ => fun
  | [d1, d2, d3, g1, g2, g3, g4, g5, g6, g7] => { results := [.lit (.bool false)], args := [d1, d2, d3], vars := [g1, g2, g3, g4, g5, g6, g7] }
  | _ => none }
def FnExactTakeOutWrongFalsely : Prop := fnExactTakeOutRow.holds Tryd.pinned (OpenSpec.ofChange fnExactTakeOutWrong)

/-- 'laws.FnExactOpenBound': WHATEVER THE INPUT: true; the input reads as it did. -/
def fnExactOpenBoundSpec : ChangeSpec := { name := "fnExactOpenBound", vars := ["loop.example/g01353/impl.errInvalid", "loop.example/g01353/impl.errRange", "loop.example/g01353/impl.errLimit", "loop.example/g01353/impl.errState", "loop.example/g01353/impl.errSyntax", "loop.example/g01353/impl.errNotFound", "loop.example/g01353/impl.errProof"], fn := fun _ => fun
  | [d1, d2, g1, g2, g3, g4, g5, g6, g7] => { results := [.lit (.bool true)], args := [d1, d2], vars := [g1, g2, g3, g4, g5, g6, g7] }
  | _ => none }
def fnExactOpenBoundRow : OpenClaim := { program := "ytcdhmlalpjcidaadoor", sum := "0f4c36948902c9cef1b9727af600db726b0888c786e198a4ff93f47ec5ebfd23", func := "loop.example/g01353/laws.FnExactOpenBound", spec := "fnExactOpenBound", inPlace := ["internal/reflectlite.TypeOf"], unfollowed := true, recurses := true, named := ["loop.example/g01353/impl.errInvalid", "loop.example/g01353/impl.errRange", "loop.example/g01353/impl.errLimit", "loop.example/g01353/impl.errState", "loop.example/g01353/impl.errSyntax", "loop.example/g01353/impl.errNotFound", "loop.example/g01353/impl.errProof"], ifaces := true, plainKeys := false, apart := false, laid := [("loop.example/g01353/impl.errInvalid", laid_loop_example_g01353_impl_errInvalid), ("loop.example/g01353/impl.errRange", laid_loop_example_g01353_impl_errRange), ("loop.example/g01353/impl.errLimit", laid_loop_example_g01353_impl_errLimit), ("loop.example/g01353/impl.errState", laid_loop_example_g01353_impl_errState), ("loop.example/g01353/impl.errSyntax", laid_loop_example_g01353_impl_errSyntax), ("loop.example/g01353/impl.errNotFound", laid_loop_example_g01353_impl_errNotFound), ("loop.example/g01353/impl.errProof", laid_loop_example_g01353_impl_errProof)] }
def FnExactOpenBoundSaid : Prop := fnExactOpenBoundRow.holds Tryd.pinned (OpenSpec.ofChange fnExactOpenBoundSpec)

/-- ITS FALSE NEIGHBOUR: 'it returns false'. Refute it at one input. -/
def fnExactOpenBoundWrong : ChangeSpec := { name := "fnExactOpenBound", vars := ["loop.example/g01353/impl.errInvalid", "loop.example/g01353/impl.errRange", "loop.example/g01353/impl.errLimit", "loop.example/g01353/impl.errState", "loop.example/g01353/impl.errSyntax", "loop.example/g01353/impl.errNotFound", "loop.example/g01353/impl.errProof"], fn := fun _ => fun
  | [d1, d2, g1, g2, g3, g4, g5, g6, g7] => { results := [.lit (.bool false)], args := [d1, d2], vars := [g1, g2, g3, g4, g5, g6, g7] }
  | _ => none }
def FnExactOpenBoundWrongFalsely : Prop := fnExactOpenBoundRow.holds Tryd.pinned (OpenSpec.ofChange fnExactOpenBoundWrong)

/-- 'laws.FnExactFewestOpen': WHATEVER THE INPUT: true; the input reads as it did. -/
def fnExactFewestOpenSpec : ChangeSpec := { name := "fnExactFewestOpen", vars := ["loop.example/g01353/impl.errInvalid", "loop.example/g01353/impl.errRange", "loop.example/g01353/impl.errLimit", "loop.example/g01353/impl.errState", "loop.example/g01353/impl.errSyntax", "loop.example/g01353/impl.errNotFound", "loop.example/g01353/impl.errProof"], fn := fun _ => fun
  | [d1, d2, g1, g2, g3, g4, g5, g6, g7] => { results := [.lit (.bool true)], args := [d1, d2], vars := [g1, g2, g3, g4, g5, g6, g7] }
  | _ => none }
def fnExactFewestOpenRow : OpenClaim := { program := "ytcdhmlalpjcidaadoor", sum := "0f4c36948902c9cef1b9727af600db726b0888c786e198a4ff93f47ec5ebfd23", func := "loop.example/g01353/laws.FnExactFewestOpen", spec := "fnExactFewestOpen", inPlace := ["internal/reflectlite.TypeOf"], unfollowed := true, recurses := true, named := ["loop.example/g01353/impl.errInvalid", "loop.example/g01353/impl.errRange", "loop.example/g01353/impl.errLimit", "loop.example/g01353/impl.errState", "loop.example/g01353/impl.errSyntax", "loop.example/g01353/impl.errNotFound", "loop.example/g01353/impl.errProof"], ifaces := true, plainKeys := false, apart := false, laid := [("loop.example/g01353/impl.errInvalid", laid_loop_example_g01353_impl_errInvalid), ("loop.example/g01353/impl.errRange", laid_loop_example_g01353_impl_errRange), ("loop.example/g01353/impl.errLimit", laid_loop_example_g01353_impl_errLimit), ("loop.example/g01353/impl.errState", laid_loop_example_g01353_impl_errState), ("loop.example/g01353/impl.errSyntax", laid_loop_example_g01353_impl_errSyntax), ("loop.example/g01353/impl.errNotFound", laid_loop_example_g01353_impl_errNotFound), ("loop.example/g01353/impl.errProof", laid_loop_example_g01353_impl_errProof)] }
def FnExactFewestOpenSaid : Prop := fnExactFewestOpenRow.holds Tryd.pinned (OpenSpec.ofChange fnExactFewestOpenSpec)

/-- ITS FALSE NEIGHBOUR: 'it returns false'. Refute it at one input. -/
def fnExactFewestOpenWrong : ChangeSpec := { name := "fnExactFewestOpen", vars := ["loop.example/g01353/impl.errInvalid", "loop.example/g01353/impl.errRange", "loop.example/g01353/impl.errLimit", "loop.example/g01353/impl.errState", "loop.example/g01353/impl.errSyntax", "loop.example/g01353/impl.errNotFound", "loop.example/g01353/impl.errProof"], fn := fun _ => fun
  | [d1, d2, g1, g2, g3, g4, g5, g6, g7] => { results := [.lit (.bool false)], args := [d1, d2], vars := [g1, g2, g3, g4, g5, g6, g7] }
  | _ => none }
def FnExactFewestOpenWrongFalsely : Prop := fnExactFewestOpenRow.holds Tryd.pinned (OpenSpec.ofChange fnExactFewestOpenWrong)

/- THE SECOND FORM. 'bulk': how many values and letters a reading holds, each counted each time it is reached (what is shared counts as often as it is met; a slice's spare places count too). A statement '..UptoSaid' is the law's where the arguments, and the package variables that the reading takes, are together of bulk at most 1048576: NARROWER than '..Said'. Prove '..Said' where nothing that the law and all that it calls make is longer than what came in: it says more and counts as full. Else prove '..UptoSaid'. A law counts once. -/
mutual
def uptoBulk {H : Type} : DataW H → Nat
  | .lit (.string bytes) => bytes.length + 1
  | .lit _ => 1
  | .nil => 1
  | .ptr d => uptoBulk d + 1
  | .slice elems spare => uptoBulkAll elems + uptoBulkAll spare + 1
  | .agg parts => uptoBulkAll parts + 1
  | .iface _ d => uptoBulk d + 1
  | .map entries => uptoBulkEntries entries + 1
  | .held _ => 1
def uptoBulkAll {H : Type} : List (DataW H) → Nat
  | [] => 0
  | d :: r => uptoBulk d + uptoBulkAll r
def uptoBulkEntries {H : Type} : List (Lit × DataW H) → Nat
  | [] => 0
  | x :: r => uptoBulkEntry x + uptoBulkEntries r
def uptoBulkEntry {H : Type} : Lit × DataW H → Nat
  | (.string bytes, d) => bytes.length + uptoBulk d + 1
  | (_, d) => uptoBulk d + 1
 end
def uptoSmall : (H : Type) → List (DataW H) → Bool := fun _ ds => decide (uptoBulkAll ds ≤ 1048576)
def OpenSpec.upto (s : _root_.Go.ChangeSpec) : _root_.Go.OpenSpec := { _root_.Go.OpenSpec.ofChange s with cond := some uptoSmall }

/-- 'laws.FnExactMostOf', WHERE WHAT IT READS IS OF BULK AT MOST 1048576: true; the input reads as it did. -/
def fnExactMostOfUptoRow : OpenClaim := { program := "ytcdhmlalpjcidaadoor", sum := "0f4c36948902c9cef1b9727af600db726b0888c786e198a4ff93f47ec5ebfd23", func := "loop.example/g01353/laws.FnExactMostOf", spec := "fnExactMostOf", inPlace := ["internal/reflectlite.TypeOf"], unfollowed := true, recurses := true, named := ["loop.example/g01353/impl.errNotFound", "loop.example/g01353/impl.errInvalid", "loop.example/g01353/impl.errRange", "loop.example/g01353/impl.errLimit", "loop.example/g01353/impl.errState", "loop.example/g01353/impl.errSyntax", "loop.example/g01353/impl.errProof"], ifaces := true, plainKeys := false, apart := false, laid := [("loop.example/g01353/impl.errInvalid", laid_loop_example_g01353_impl_errInvalid), ("loop.example/g01353/impl.errRange", laid_loop_example_g01353_impl_errRange), ("loop.example/g01353/impl.errLimit", laid_loop_example_g01353_impl_errLimit), ("loop.example/g01353/impl.errState", laid_loop_example_g01353_impl_errState), ("loop.example/g01353/impl.errSyntax", laid_loop_example_g01353_impl_errSyntax), ("loop.example/g01353/impl.errNotFound", laid_loop_example_g01353_impl_errNotFound), ("loop.example/g01353/impl.errProof", laid_loop_example_g01353_impl_errProof)], narrowed := true }
def FnExactMostOfUptoSaid : Prop := fnExactMostOfUptoRow.holds Tryd.pinned (OpenSpec.upto fnExactMostOfSpec)

/-- 'laws.FnExactTakeOut', WHERE WHAT IT READS IS OF BULK AT MOST 1048576: true; the input reads as it did. -/
def fnExactTakeOutUptoRow : OpenClaim := { program := "ytcdhmlalpjcidaadoor", sum := "0f4c36948902c9cef1b9727af600db726b0888c786e198a4ff93f47ec5ebfd23", func := "loop.example/g01353/laws.FnExactTakeOut", spec := "fnExactTakeOut", inPlace := ["internal/reflectlite.TypeOf"], unfollowed := true, recurses := true, named := ["loop.example/g01353/impl.errState", "loop.example/g01353/impl.errInvalid", "loop.example/g01353/impl.errRange", "loop.example/g01353/impl.errLimit", "loop.example/g01353/impl.errSyntax", "loop.example/g01353/impl.errNotFound", "loop.example/g01353/impl.errProof"], ifaces := true, plainKeys := false, apart := false, laid := [("loop.example/g01353/impl.errInvalid", laid_loop_example_g01353_impl_errInvalid), ("loop.example/g01353/impl.errRange", laid_loop_example_g01353_impl_errRange), ("loop.example/g01353/impl.errLimit", laid_loop_example_g01353_impl_errLimit), ("loop.example/g01353/impl.errState", laid_loop_example_g01353_impl_errState), ("loop.example/g01353/impl.errSyntax", laid_loop_example_g01353_impl_errSyntax), ("loop.example/g01353/impl.errNotFound", laid_loop_example_g01353_impl_errNotFound), ("loop.example/g01353/impl.errProof", laid_loop_example_g01353_impl_errProof)], narrowed := true }
def FnExactTakeOutUptoSaid : Prop := fnExactTakeOutUptoRow.holds Tryd.pinned (OpenSpec.upto fnExactTakeOutSpec)

/-- 'laws.FnExactOpenBound', WHERE WHAT IT READS IS OF BULK AT MOST 1048576: true; the input reads as it did. -/
def fnExactOpenBoundUptoRow : OpenClaim := { program := "ytcdhmlalpjcidaadoor", sum := "0f4c36948902c9cef1b9727af600db726b0888c786e198a4ff93f47ec5ebfd23", func := "loop.example/g01353/laws.FnExactOpenBound", spec := "fnExactOpenBound", inPlace := ["internal/reflectlite.TypeOf"], unfollowed := true, recurses := true, named := ["loop.example/g01353/impl.errInvalid", "loop.example/g01353/impl.errRange", "loop.example/g01353/impl.errLimit", "loop.example/g01353/impl.errState", "loop.example/g01353/impl.errSyntax", "loop.example/g01353/impl.errNotFound", "loop.example/g01353/impl.errProof"], ifaces := true, plainKeys := false, apart := false, laid := [("loop.example/g01353/impl.errInvalid", laid_loop_example_g01353_impl_errInvalid), ("loop.example/g01353/impl.errRange", laid_loop_example_g01353_impl_errRange), ("loop.example/g01353/impl.errLimit", laid_loop_example_g01353_impl_errLimit), ("loop.example/g01353/impl.errState", laid_loop_example_g01353_impl_errState), ("loop.example/g01353/impl.errSyntax", laid_loop_example_g01353_impl_errSyntax), ("loop.example/g01353/impl.errNotFound", laid_loop_example_g01353_impl_errNotFound), ("loop.example/g01353/impl.errProof", laid_loop_example_g01353_impl_errProof)], narrowed := true }
def FnExactOpenBoundUptoSaid : Prop := fnExactOpenBoundUptoRow.holds Tryd.pinned (OpenSpec.upto fnExactOpenBoundSpec)

/-- 'laws.FnExactFewestOpen', WHERE WHAT IT READS IS OF BULK AT MOST 1048576: true; the input reads as it did. -/
def fnExactFewestOpenUptoRow : OpenClaim := { program := "ytcdhmlalpjcidaadoor", sum := "0f4c36948902c9cef1b9727af600db726b0888c786e198a4ff93f47ec5ebfd23", func := "loop.example/g01353/laws.FnExactFewestOpen", spec := "fnExactFewestOpen", inPlace := ["internal/reflectlite.TypeOf"], unfollowed := true, recurses := true, named := ["loop.example/g01353/impl.errInvalid", "loop.example/g01353/impl.errRange", "loop.example/g01353/impl.errLimit", "loop.example/g01353/impl.errState", "loop.example/g01353/impl.errSyntax", "loop.example/g01353/impl.errNotFound", "loop.example/g01353/impl.errProof"], ifaces := true, plainKeys := false, apart := false, laid := [("loop.example/g01353/impl.errInvalid", laid_loop_example_g01353_impl_errInvalid), ("loop.example/g01353/impl.errRange", laid_loop_example_g01353_impl_errRange), ("loop.example/g01353/impl.errLimit", laid_loop_example_g01353_impl_errLimit), ("loop.example/g01353/impl.errState", laid_loop_example_g01353_impl_errState), ("loop.example/g01353/impl.errSyntax", laid_loop_example_g01353_impl_errSyntax), ("loop.example/g01353/impl.errNotFound", laid_loop_example_g01353_impl_errNotFound), ("loop.example/g01353/impl.errProof", laid_loop_example_g01353_impl_errProof)], narrowed := true }
def FnExactFewestOpenUptoSaid : Prop := fnExactFewestOpenUptoRow.holds Tryd.pinned (OpenSpec.upto fnExactFewestOpenSpec)

end Rows
end Go.Proofs.YtcdhmlalpjcidaaDoor
