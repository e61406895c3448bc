/-
  NARROWER THAN 'FOR EVERY INPUT', by the rows' own cells (each row's printed sentence says how): FnExactBestTurn: ifaces, laid · FnExactSplitOrder: ifaces, laid · FnExactGreedyOpen: ifaces, laid · FnExactJoinOrders: ifaces, laid.
  DERIVED. THE GIVEN ROWS OF THIS SEAT. 4 by the template 'for every input the law returns true; each argument reads behind the call as it read before'; 0 by the template 'total and deterministic' (their statements: YtkehmelcecifdaaDoorTotals.lean).
  GIVEN WITH THE SEED: the statements are not yours to turn. If you find one false, say at which input.
  Laid BY PROGRAM, IN A SANDBOX (cutbox-rows.mjs): the forced cells as the released guide's own fill.sh prints them over the translation 3bb2bf738ecd33c8… (all of the seat's roots in one cut). By AI agents, Wed Nov 11 2026. No macro, syntax, notation, axiom, sorry.
-/
import Derived.Test.YtkehmelcecifdaaDoorChecked
import GoSem.Claim
import GoSem.ClaimJoined
import GoSem.ClaimMapViews
import Derived.JoinedTies
import Derived.KernelRfl
namespace Go.Proofs.YtkehmelcecifdaaDoor
/- THE CELL 'sum', in the pinned program and in every row, IS THE sha256 OF THE DUMP (.gsa) THAT YtkehmelcecifdaaDoorProg.lean LOADS. Nothing in Lean hashes anything: it is a label: what it is worth is what the hold of that sum in a sandbox is worth. -/
noncomputable def Tryd.pinned : Pinned := { name := "ytkehmelcecifdaadoor", sum := "3bb2bf738ecd33c8ee9c4d61d1ed28ca91f78e819022b775e61b60387f449775", checked := Tryd.checked }
namespace Rows
def none {H : Type} : Left H := { results := [], args := [] }

/- WHAT THE LISTED PACKAGE-LEVEL VARIABLES READ AS WHEN THE CALL BEGINS. Each datum BY PROGRAM (the guide's laid-datum.mjs) off the statement by which the dump's own 'gosem.cut.vars' lays the variable. In a bare row this is a premise. The card (YtkehmelcecifdaaDoorCards.lean) ties it to the program's text. -/
def laid_loop_example_g01353_impl_errInvalid {H : Type} : DataW H := .iface "*errors.errorString" (.ptr (.agg [.lit (.string [105, 110, 118, 97, 108, 105, 100])]))
def laid_loop_example_g01353_impl_errRange {H : Type} : DataW H := .iface "*errors.errorString" (.ptr (.agg [.lit (.string [114, 97, 110, 103, 101])]))
def laid_loop_example_g01353_impl_errLimit {H : Type} : DataW H := .iface "*errors.errorString" (.ptr (.agg [.lit (.string [108, 105, 109, 105, 116])]))
def laid_loop_example_g01353_impl_errState {H : Type} : DataW H := .iface "*errors.errorString" (.ptr (.agg [.lit (.string [115, 116, 97, 116, 101])]))
def laid_loop_example_g01353_impl_errSyntax {H : Type} : DataW H := .iface "*errors.errorString" (.ptr (.agg [.lit (.string [115, 121, 110, 116, 97, 120])]))
def laid_loop_example_g01353_impl_errNotFound {H : Type} : DataW H := .iface "*errors.errorString" (.ptr (.agg [.lit (.string [110, 111, 116, 102, 111, 117, 110, 100])]))
def laid_loop_example_g01353_impl_errProof {H : Type} : DataW H := .iface "*errors.errorString" (.ptr (.agg [.lit (.string [112, 114, 111, 111, 102])]))

/-- 'laws.FnExactBestTurn': WHATEVER THE INPUT: true; the input reads as it did. -/
def fnExactBestTurnSpec : ChangeSpec := { name := "fnExactBestTurn", vars := ["loop.example/g01353/impl.errLimit", "loop.example/g01353/impl.errInvalid", "loop.example/g01353/impl.errRange", "loop.example/g01353/impl.errState", "loop.example/g01353/impl.errSyntax", "loop.example/g01353/impl.errNotFound", "loop.example/g01353/impl.errProof"], fn := fun _ => fun
  | [d1, d2, d3, g1, g2, g3, g4, g5, g6, g7] => { results := [.lit (.bool true)], args := [d1, d2, d3], vars := [g1, g2, g3, g4, g5, g6, g7] }
  | _ => none }
def fnExactBestTurnRow : OpenClaim := { program := "ytkehmelcecifdaadoor", sum := "3bb2bf738ecd33c8ee9c4d61d1ed28ca91f78e819022b775e61b60387f449775", func := "loop.example/g01353/laws.FnExactBestTurn", spec := "fnExactBestTurn", inPlace := ["internal/reflectlite.TypeOf"], unfollowed := true, recurses := true, named := ["loop.example/g01353/impl.errLimit", "loop.example/g01353/impl.errInvalid", "loop.example/g01353/impl.errRange", "loop.example/g01353/impl.errState", "loop.example/g01353/impl.errSyntax", "loop.example/g01353/impl.errNotFound", "loop.example/g01353/impl.errProof"], ifaces := true, plainKeys := false, apart := false, laid := [("loop.example/g01353/impl.errInvalid", laid_loop_example_g01353_impl_errInvalid), ("loop.example/g01353/impl.errRange", laid_loop_example_g01353_impl_errRange), ("loop.example/g01353/impl.errLimit", laid_loop_example_g01353_impl_errLimit), ("loop.example/g01353/impl.errState", laid_loop_example_g01353_impl_errState), ("loop.example/g01353/impl.errSyntax", laid_loop_example_g01353_impl_errSyntax), ("loop.example/g01353/impl.errNotFound", laid_loop_example_g01353_impl_errNotFound), ("loop.example/g01353/impl.errProof", laid_loop_example_g01353_impl_errProof)] }
def FnExactBestTurnSaid : Prop := fnExactBestTurnRow.holds Tryd.pinned (OpenSpec.ofChange fnExactBestTurnSpec)

/-- ITS FALSE NEIGHBOUR: 'it returns false'. Refute it at one input. -/
def fnExactBestTurnWrong : ChangeSpec := { name := "fnExactBestTurn", vars := ["loop.example/g01353/impl.errLimit", "loop.example/g01353/impl.errInvalid", "loop.example/g01353/impl.errRange", "loop.example/g01353/impl.errState", "loop.example/g01353/impl.errSyntax", "loop.example/g01353/impl.errNotFound", "loop.example/g01353/impl.errProof"], fn := fun _ => fun
  | [d1, d2, d3, g1, g2, g3, g4, g5, g6, g7] => { results := [.lit (.bool false)], args := [d1, d2, d3], vars := [g1, g2, g3, g4, g5, g6, g7] }
  | _ => none }
def FnExactBestTurnWrongFalsely : Prop := fnExactBestTurnRow.holds Tryd.pinned (OpenSpec.ofChange fnExactBestTurnWrong)

/-- 'laws.FnExactSplitOrder': WHATEVER THE INPUT: true; the input reads as it did. -/
def fnExactSplitOrderSpec : ChangeSpec := { name := "fnExactSplitOrder", vars := ["loop.example/g01353/impl.errInvalid", "loop.example/g01353/impl.errRange", "loop.example/g01353/impl.errLimit", "loop.example/g01353/impl.errState", "loop.example/g01353/impl.errSyntax", "loop.example/g01353/impl.errNotFound", "loop.example/g01353/impl.errProof"], fn := fun _ => fun
  | [d1, d2, g1, g2, g3, g4, g5, g6, g7] => { results := [.lit (.bool true)], args := [d1, d2], vars := [g1, g2, g3, g4, g5, g6, g7] }
  | _ => none }
def fnExactSplitOrderRow : OpenClaim := { program := "ytkehmelcecifdaadoor", sum := "3bb2bf738ecd33c8ee9c4d61d1ed28ca91f78e819022b775e61b60387f449775", func := "loop.example/g01353/laws.FnExactSplitOrder", spec := "fnExactSplitOrder", inPlace := ["internal/reflectlite.TypeOf"], unfollowed := true, recurses := true, named := ["loop.example/g01353/impl.errInvalid", "loop.example/g01353/impl.errRange", "loop.example/g01353/impl.errLimit", "loop.example/g01353/impl.errState", "loop.example/g01353/impl.errSyntax", "loop.example/g01353/impl.errNotFound", "loop.example/g01353/impl.errProof"], ifaces := true, plainKeys := false, apart := false, laid := [("loop.example/g01353/impl.errInvalid", laid_loop_example_g01353_impl_errInvalid), ("loop.example/g01353/impl.errRange", laid_loop_example_g01353_impl_errRange), ("loop.example/g01353/impl.errLimit", laid_loop_example_g01353_impl_errLimit), ("loop.example/g01353/impl.errState", laid_loop_example_g01353_impl_errState), ("loop.example/g01353/impl.errSyntax", laid_loop_example_g01353_impl_errSyntax), ("loop.example/g01353/impl.errNotFound", laid_loop_example_g01353_impl_errNotFound), ("loop.example/g01353/impl.errProof", laid_loop_example_g01353_impl_errProof)] }
def FnExactSplitOrderSaid : Prop := fnExactSplitOrderRow.holds Tryd.pinned (OpenSpec.ofChange fnExactSplitOrderSpec)

/-- ITS FALSE NEIGHBOUR: 'it returns false'. Refute it at one input. -/
def fnExactSplitOrderWrong : ChangeSpec := { name := "fnExactSplitOrder", vars := ["loop.example/g01353/impl.errInvalid", "loop.example/g01353/impl.errRange", "loop.example/g01353/impl.errLimit", "loop.example/g01353/impl.errState", "loop.example/g01353/impl.errSyntax", "loop.example/g01353/impl.errNotFound", "loop.example/g01353/impl.errProof"], fn := fun _ => fun
  | [d1, d2, g1, g2, g3, g4, g5, g6, g7] => { results := [.lit (.bool false)], args := [d1, d2], vars := [g1, g2, g3, g4, g5, g6, g7] }
  | _ => none }
def FnExactSplitOrderWrongFalsely : Prop := fnExactSplitOrderRow.holds Tryd.pinned (OpenSpec.ofChange fnExactSplitOrderWrong)

/-- 'laws.FnExactGreedyOpen': WHATEVER THE INPUT: true; the input reads as it did. -/
def fnExactGreedyOpenSpec : ChangeSpec := { name := "fnExactGreedyOpen", vars := ["loop.example/g01353/impl.errInvalid", "loop.example/g01353/impl.errRange", "loop.example/g01353/impl.errLimit", "loop.example/g01353/impl.errState", "loop.example/g01353/impl.errSyntax", "loop.example/g01353/impl.errNotFound", "loop.example/g01353/impl.errProof"], fn := fun _ => fun
  | [d1, d2, g1, g2, g3, g4, g5, g6, g7] => { results := [.lit (.bool true)], args := [d1, d2], vars := [g1, g2, g3, g4, g5, g6, g7] }
  | _ => none }
def fnExactGreedyOpenRow : OpenClaim := { program := "ytkehmelcecifdaadoor", sum := "3bb2bf738ecd33c8ee9c4d61d1ed28ca91f78e819022b775e61b60387f449775", func := "loop.example/g01353/laws.FnExactGreedyOpen", spec := "fnExactGreedyOpen", inPlace := ["internal/reflectlite.TypeOf"], unfollowed := true, recurses := true, named := ["loop.example/g01353/impl.errInvalid", "loop.example/g01353/impl.errRange", "loop.example/g01353/impl.errLimit", "loop.example/g01353/impl.errState", "loop.example/g01353/impl.errSyntax", "loop.example/g01353/impl.errNotFound", "loop.example/g01353/impl.errProof"], ifaces := true, plainKeys := false, apart := false, laid := [("loop.example/g01353/impl.errInvalid", laid_loop_example_g01353_impl_errInvalid), ("loop.example/g01353/impl.errRange", laid_loop_example_g01353_impl_errRange), ("loop.example/g01353/impl.errLimit", laid_loop_example_g01353_impl_errLimit), ("loop.example/g01353/impl.errState", laid_loop_example_g01353_impl_errState), ("loop.example/g01353/impl.errSyntax", laid_loop_example_g01353_impl_errSyntax), ("loop.example/g01353/impl.errNotFound", laid_loop_example_g01353_impl_errNotFound), ("loop.example/g01353/impl.errProof", laid_loop_example_g01353_impl_errProof)] }
def FnExactGreedyOpenSaid : Prop := fnExactGreedyOpenRow.holds Tryd.pinned (OpenSpec.ofChange fnExactGreedyOpenSpec)

/-- ITS FALSE NEIGHBOUR: 'it returns false'. Refute it at one input. -/
def fnExactGreedyOpenWrong : ChangeSpec := { name := "fnExactGreedyOpen", vars := ["loop.example/g01353/impl.errInvalid", "loop.example/g01353/impl.errRange", "loop.example/g01353/impl.errLimit", "loop.example/g01353/impl.errState", "loop.example/g01353/impl.errSyntax", "loop.example/g01353/impl.errNotFound", "loop.example/g01353/impl.errProof"], fn := fun _ => fun
  | [d1, d2, g1, g2, g3, g4, g5, g6, g7] => { results := [.lit (.bool false)], args := [d1, d2], vars := [g1, g2, g3, g4, g5, g6, g7] }
  | _ => none }
def FnExactGreedyOpenWrongFalsely : Prop := fnExactGreedyOpenRow.holds Tryd.pinned (OpenSpec.ofChange fnExactGreedyOpenWrong)

/-- 'laws.FnExactJoinOrders': WHATEVER THE INPUT: true; the input reads as it did. -/
def fnExactJoinOrdersSpec : ChangeSpec := { name := "fnExactJoinOrders", vars := ["loop.example/g01353/impl.errLimit", "loop.example/g01353/impl.errInvalid", "loop.example/g01353/impl.errRange", "loop.example/g01353/impl.errState", "loop.example/g01353/impl.errSyntax", "loop.example/g01353/impl.errNotFound", "loop.example/g01353/impl.errProof"], fn := fun _ => fun
  | [d1, d2, g1, g2, g3, g4, g5, g6, g7] => { results := [.lit (.bool true)], args := [d1, d2], vars := [g1, g2, g3, g4, g5, g6, g7] }
  | _ => none }
def fnExactJoinOrdersRow : OpenClaim := { program := "ytkehmelcecifdaadoor", sum := "3bb2bf738ecd33c8ee9c4d61d1ed28ca91f78e819022b775e61b60387f449775", func := "loop.example/g01353/laws.FnExactJoinOrders", spec := "fnExactJoinOrders", inPlace := ["internal/reflectlite.TypeOf"], unfollowed := true, recurses := true, named := ["loop.example/g01353/impl.errLimit", "loop.example/g01353/impl.errInvalid", "loop.example/g01353/impl.errRange", "loop.example/g01353/impl.errState", "loop.example/g01353/impl.errSyntax", "loop.example/g01353/impl.errNotFound", "loop.example/g01353/impl.errProof"], ifaces := true, plainKeys := false, apart := false, laid := [("loop.example/g01353/impl.errInvalid", laid_loop_example_g01353_impl_errInvalid), ("loop.example/g01353/impl.errRange", laid_loop_example_g01353_impl_errRange), ("loop.example/g01353/impl.errLimit", laid_loop_example_g01353_impl_errLimit), ("loop.example/g01353/impl.errState", laid_loop_example_g01353_impl_errState), ("loop.example/g01353/impl.errSyntax", laid_loop_example_g01353_impl_errSyntax), ("loop.example/g01353/impl.errNotFound", laid_loop_example_g01353_impl_errNotFound), ("loop.example/g01353/impl.errProof", laid_loop_example_g01353_impl_errProof)] }
def FnExactJoinOrdersSaid : Prop := fnExactJoinOrdersRow.holds Tryd.pinned (OpenSpec.ofChange fnExactJoinOrdersSpec)

/-- ITS FALSE NEIGHBOUR: 'it returns false'. Refute it at one input. -/
def fnExactJoinOrdersWrong : ChangeSpec := { name := "fnExactJoinOrders", vars := ["loop.example/g01353/impl.errLimit", "loop.example/g01353/impl.errInvalid", "loop.example/g01353/impl.errRange", "loop.example/g01353/impl.errState", "loop.example/g01353/impl.errSyntax", "loop.example/g01353/impl.errNotFound", "loop.example/g01353/impl.errProof"], fn := fun _ => fun
  | [d1, d2, g1, g2, g3, g4, g5, g6, g7] => { results := [.lit (.bool false)], args := [d1, d2], vars := [g1, g2, g3, g4, g5, g6, g7] }
  | _ => none }
def FnExactJoinOrdersWrongFalsely : Prop := fnExactJoinOrdersRow.holds Tryd.pinned (OpenSpec.ofChange fnExactJoinOrdersWrong)

/- THE SECOND FORM. 'bulk': how many values and letters a reading holds, each counted each time it is reached (what is shared counts as often as it is met; a slice's spare places count too). A statement '..UptoSaid' is the law's where the arguments, and the package variables that the reading takes, are together of bulk at most 1048576: NARROWER than '..Said'. Prove '..Said' where nothing that the law and all that it calls make is longer than what came in: it says more and counts as full. Else prove '..UptoSaid'. A law counts once. -/
mutual
def uptoBulk {H : Type} : DataW H → Nat
  | .lit (.string bytes) => bytes.length + 1
  | .lit _ => 1
  | .nil => 1
  | .ptr d => uptoBulk d + 1
  | .slice elems spare => uptoBulkAll elems + uptoBulkAll spare + 1
  | .agg parts => uptoBulkAll parts + 1
  | .iface _ d => uptoBulk d + 1
  | .map entries => uptoBulkEntries entries + 1
  | .held _ => 1
def uptoBulkAll {H : Type} : List (DataW H) → Nat
  | [] => 0
  | d :: r => uptoBulk d + uptoBulkAll r
def uptoBulkEntries {H : Type} : List (Lit × DataW H) → Nat
  | [] => 0
  | x :: r => uptoBulkEntry x + uptoBulkEntries r
def uptoBulkEntry {H : Type} : Lit × DataW H → Nat
  | (.string bytes, d) => bytes.length + uptoBulk d + 1
  | (_, d) => uptoBulk d + 1
 end
def uptoSmall : (H : Type) → List (DataW H) → Bool := fun _ ds => decide (uptoBulkAll ds ≤ 1048576)
def OpenSpec.upto (s : _root_.Go.ChangeSpec) : _root_.Go.OpenSpec := { _root_.Go.OpenSpec.ofChange s with cond := some uptoSmall }

/-- 'laws.FnExactBestTurn', WHERE WHAT IT READS IS OF BULK AT MOST 1048576: true; the input reads as it did. -/
def fnExactBestTurnUptoRow : OpenClaim := { program := "ytkehmelcecifdaadoor", sum := "3bb2bf738ecd33c8ee9c4d61d1ed28ca91f78e819022b775e61b60387f449775", func := "loop.example/g01353/laws.FnExactBestTurn", spec := "fnExactBestTurn", inPlace := ["internal/reflectlite.TypeOf"], unfollowed := true, recurses := true, named := ["loop.example/g01353/impl.errLimit", "loop.example/g01353/impl.errInvalid", "loop.example/g01353/impl.errRange", "loop.example/g01353/impl.errState", "loop.example/g01353/impl.errSyntax", "loop.example/g01353/impl.errNotFound", "loop.example/g01353/impl.errProof"], ifaces := true, plainKeys := false, apart := false, laid := [("loop.example/g01353/impl.errInvalid", laid_loop_example_g01353_impl_errInvalid), ("loop.example/g01353/impl.errRange", laid_loop_example_g01353_impl_errRange), ("loop.example/g01353/impl.errLimit", laid_loop_example_g01353_impl_errLimit), ("loop.example/g01353/impl.errState", laid_loop_example_g01353_impl_errState), ("loop.example/g01353/impl.errSyntax", laid_loop_example_g01353_impl_errSyntax), ("loop.example/g01353/impl.errNotFound", laid_loop_example_g01353_impl_errNotFound), ("loop.example/g01353/impl.errProof", laid_loop_example_g01353_impl_errProof)], narrowed := true }
def FnExactBestTurnUptoSaid : Prop := fnExactBestTurnUptoRow.holds Tryd.pinned (OpenSpec.upto fnExactBestTurnSpec)

/-- 'laws.FnExactSplitOrder', WHERE WHAT IT READS IS OF BULK AT MOST 1048576: true; the input reads as it did. -/
def fnExactSplitOrderUptoRow : OpenClaim := { program := "ytkehmelcecifdaadoor", sum := "3bb2bf738ecd33c8ee9c4d61d1ed28ca91f78e819022b775e61b60387f449775", func := "loop.example/g01353/laws.FnExactSplitOrder", spec := "fnExactSplitOrder", inPlace := ["internal/reflectlite.TypeOf"], unfollowed := true, recurses := true, named := ["loop.example/g01353/impl.errInvalid", "loop.example/g01353/impl.errRange", "loop.example/g01353/impl.errLimit", "loop.example/g01353/impl.errState", "loop.example/g01353/impl.errSyntax", "loop.example/g01353/impl.errNotFound", "loop.example/g01353/impl.errProof"], ifaces := true, plainKeys := false, apart := false, laid := [("loop.example/g01353/impl.errInvalid", laid_loop_example_g01353_impl_errInvalid), ("loop.example/g01353/impl.errRange", laid_loop_example_g01353_impl_errRange), ("loop.example/g01353/impl.errLimit", laid_loop_example_g01353_impl_errLimit), ("loop.example/g01353/impl.errState", laid_loop_example_g01353_impl_errState), ("loop.example/g01353/impl.errSyntax", laid_loop_example_g01353_impl_errSyntax), ("loop.example/g01353/impl.errNotFound", laid_loop_example_g01353_impl_errNotFound), ("loop.example/g01353/impl.errProof", laid_loop_example_g01353_impl_errProof)], narrowed := true }
def FnExactSplitOrderUptoSaid : Prop := fnExactSplitOrderUptoRow.holds Tryd.pinned (OpenSpec.upto fnExactSplitOrderSpec)

/-- 'laws.FnExactGreedyOpen', WHERE WHAT IT READS IS OF BULK AT MOST 1048576: true; the input reads as it did. -/
def fnExactGreedyOpenUptoRow : OpenClaim := { program := "ytkehmelcecifdaadoor", sum := "3bb2bf738ecd33c8ee9c4d61d1ed28ca91f78e819022b775e61b60387f449775", func := "loop.example/g01353/laws.FnExactGreedyOpen", spec := "fnExactGreedyOpen", inPlace := ["internal/reflectlite.TypeOf"], unfollowed := true, recurses := true, named := ["loop.example/g01353/impl.errInvalid", "loop.example/g01353/impl.errRange", "loop.example/g01353/impl.errLimit", "loop.example/g01353/impl.errState", "loop.example/g01353/impl.errSyntax", "loop.example/g01353/impl.errNotFound", "loop.example/g01353/impl.errProof"], ifaces := true, plainKeys := false, apart := false, laid := [("loop.example/g01353/impl.errInvalid", laid_loop_example_g01353_impl_errInvalid), ("loop.example/g01353/impl.errRange", laid_loop_example_g01353_impl_errRange), ("loop.example/g01353/impl.errLimit", laid_loop_example_g01353_impl_errLimit), ("loop.example/g01353/impl.errState", laid_loop_example_g01353_impl_errState), ("loop.example/g01353/impl.errSyntax", laid_loop_example_g01353_impl_errSyntax), ("loop.example/g01353/impl.errNotFound", laid_loop_example_g01353_impl_errNotFound), ("loop.example/g01353/impl.errProof", laid_loop_example_g01353_impl_errProof)], narrowed := true }
def FnExactGreedyOpenUptoSaid : Prop := fnExactGreedyOpenUptoRow.holds Tryd.pinned (OpenSpec.upto fnExactGreedyOpenSpec)

/-- 'laws.FnExactJoinOrders', WHERE WHAT IT READS IS OF BULK AT MOST 1048576: true; the input reads as it did. -/
def fnExactJoinOrdersUptoRow : OpenClaim := { program := "ytkehmelcecifdaadoor", sum := "3bb2bf738ecd33c8ee9c4d61d1ed28ca91f78e819022b775e61b60387f449775", func := "loop.example/g01353/laws.FnExactJoinOrders", spec := "fnExactJoinOrders", inPlace := ["internal/reflectlite.TypeOf"], unfollowed := true, recurses := true, named := ["loop.example/g01353/impl.errLimit", "loop.example/g01353/impl.errInvalid", "loop.example/g01353/impl.errRange", "loop.example/g01353/impl.errState", "loop.example/g01353/impl.errSyntax", "loop.example/g01353/impl.errNotFound", "loop.example/g01353/impl.errProof"], ifaces := true, plainKeys := false, apart := false, laid := [("loop.example/g01353/impl.errInvalid", laid_loop_example_g01353_impl_errInvalid), ("loop.example/g01353/impl.errRange", laid_loop_example_g01353_impl_errRange), ("loop.example/g01353/impl.errLimit", laid_loop_example_g01353_impl_errLimit), ("loop.example/g01353/impl.errState", laid_loop_example_g01353_impl_errState), ("loop.example/g01353/impl.errSyntax", laid_loop_example_g01353_impl_errSyntax), ("loop.example/g01353/impl.errNotFound", laid_loop_example_g01353_impl_errNotFound), ("loop.example/g01353/impl.errProof", laid_loop_example_g01353_impl_errProof)], narrowed := true }
def FnExactJoinOrdersUptoSaid : Prop := fnExactJoinOrdersUptoRow.holds Tryd.pinned (OpenSpec.upto fnExactJoinOrdersSpec)

end Rows
end Go.Proofs.YtkehmelcecifdaaDoor
