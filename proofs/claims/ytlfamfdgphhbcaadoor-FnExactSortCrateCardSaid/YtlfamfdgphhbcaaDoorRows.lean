/-
  NARROWER THAN 'FOR EVERY INPUT', by the rows' own cells (each row's printed sentence says how): FnExactMeetingDay: ifaces, laid · FnExactSortCrate: ifaces, laid · FnExactSortLane: ifaces, laid · FnExactCrateText: laid.
  DERIVED. THE GIVEN ROWS OF THIS SEAT. 4 by the template 'for every input the law returns true; each argument reads behind the call as it read before'; 0 by the template 'total and deterministic' (their statements: YtlfamfdgphhbcaaDoorTotals.lean).
  GIVEN WITH THE SEED: the statements are not yours to turn. If you find one false, say at which input.
  Laid BY PROGRAM, IN A SANDBOX (cutbox-rows.mjs): the forced cells as the released guide's own fill.sh prints them over the translation 808dde9c421efde4… (all of the seat's roots in one cut). By AI agents, Wed Nov 11 2026. No macro, syntax, notation, axiom, sorry.
-/
import Derived.Test.YtlfamfdgphhbcaaDoorChecked
import GoSem.Claim
import GoSem.ClaimJoined
import GoSem.ClaimMapViews
import Derived.JoinedTies
import Derived.KernelRfl
namespace Go.Proofs.YtlfamfdgphhbcaaDoor
/- THE CELL 'sum', in the pinned program and in every row, IS THE sha256 OF THE DUMP (.gsa) THAT YtlfamfdgphhbcaaDoorProg.lean LOADS. Nothing in Lean hashes anything: it is a label: what it is worth is what the hold of that sum in a sandbox is worth. -/
noncomputable def Tryd.pinned : Pinned := { name := "ytlfamfdgphhbcaadoor", sum := "808dde9c421efde452fe4b1406c09808a515612d3a5b0ecf363e3918125be94a", checked := Tryd.checked }
namespace Rows
def none {H : Type} : Left H := { results := [], args := [] }

/- WHAT THE LISTED PACKAGE-LEVEL VARIABLES READ AS WHEN THE CALL BEGINS. Each datum BY PROGRAM (the guide's laid-datum.mjs) off the statement by which the dump's own 'gosem.cut.vars' lays the variable. In a bare row this is a premise. The card (YtlfamfdgphhbcaaDoorCards.lean) ties it to the program's text. -/
def laid_loop_example_g01353_impl_errInvalid {H : Type} : DataW H := .iface "*errors.errorString" (.ptr (.agg [.lit (.string [105, 110, 118, 97, 108, 105, 100])]))
def laid_loop_example_g01353_impl_errRange {H : Type} : DataW H := .iface "*errors.errorString" (.ptr (.agg [.lit (.string [114, 97, 110, 103, 101])]))
def laid_loop_example_g01353_impl_errLimit {H : Type} : DataW H := .iface "*errors.errorString" (.ptr (.agg [.lit (.string [108, 105, 109, 105, 116])]))
def laid_loop_example_g01353_impl_errState {H : Type} : DataW H := .iface "*errors.errorString" (.ptr (.agg [.lit (.string [115, 116, 97, 116, 101])]))
def laid_loop_example_g01353_impl_errSyntax {H : Type} : DataW H := .iface "*errors.errorString" (.ptr (.agg [.lit (.string [115, 121, 110, 116, 97, 120])]))
def laid_loop_example_g01353_impl_errNotFound {H : Type} : DataW H := .iface "*errors.errorString" (.ptr (.agg [.lit (.string [110, 111, 116, 102, 111, 117, 110, 100])]))
def laid_loop_example_g01353_impl_errProof {H : Type} : DataW H := .iface "*errors.errorString" (.ptr (.agg [.lit (.string [112, 114, 111, 111, 102])]))
def laid_math_bits_deBruijn32tab {H : Type} : DataW H := .agg [.lit (.int .u8 0), .lit (.int .u8 1), .lit (.int .u8 28), .lit (.int .u8 2), .lit (.int .u8 29), .lit (.int .u8 14), .lit (.int .u8 24), .lit (.int .u8 3), .lit (.int .u8 30), .lit (.int .u8 22), .lit (.int .u8 20), .lit (.int .u8 15), .lit (.int .u8 25), .lit (.int .u8 17), .lit (.int .u8 4), .lit (.int .u8 8), .lit (.int .u8 31), .lit (.int .u8 27), .lit (.int .u8 13), .lit (.int .u8 23), .lit (.int .u8 21), .lit (.int .u8 19), .lit (.int .u8 16), .lit (.int .u8 7), .lit (.int .u8 26), .lit (.int .u8 12), .lit (.int .u8 18), .lit (.int .u8 6), .lit (.int .u8 11), .lit (.int .u8 5), .lit (.int .u8 10), .lit (.int .u8 9)]
def laid_math_bits_deBruijn64tab {H : Type} : DataW H := .agg [.lit (.int .u8 0), .lit (.int .u8 1), .lit (.int .u8 56), .lit (.int .u8 2), .lit (.int .u8 57), .lit (.int .u8 49), .lit (.int .u8 28), .lit (.int .u8 3), .lit (.int .u8 61), .lit (.int .u8 58), .lit (.int .u8 42), .lit (.int .u8 50), .lit (.int .u8 38), .lit (.int .u8 29), .lit (.int .u8 17), .lit (.int .u8 4), .lit (.int .u8 62), .lit (.int .u8 47), .lit (.int .u8 59), .lit (.int .u8 36), .lit (.int .u8 45), .lit (.int .u8 43), .lit (.int .u8 51), .lit (.int .u8 22), .lit (.int .u8 53), .lit (.int .u8 39), .lit (.int .u8 33), .lit (.int .u8 30), .lit (.int .u8 24), .lit (.int .u8 18), .lit (.int .u8 12), .lit (.int .u8 5), .lit (.int .u8 63), .lit (.int .u8 55), .lit (.int .u8 48), .lit (.int .u8 27), .lit (.int .u8 60), .lit (.int .u8 41), .lit (.int .u8 37), .lit (.int .u8 16), .lit (.int .u8 46), .lit (.int .u8 35), .lit (.int .u8 44), .lit (.int .u8 21), .lit (.int .u8 52), .lit (.int .u8 32), .lit (.int .u8 23), .lit (.int .u8 11), .lit (.int .u8 54), .lit (.int .u8 26), .lit (.int .u8 40), .lit (.int .u8 15), .lit (.int .u8 34), .lit (.int .u8 20), .lit (.int .u8 31), .lit (.int .u8 10), .lit (.int .u8 25), .lit (.int .u8 14), .lit (.int .u8 19), .lit (.int .u8 9), .lit (.int .u8 13), .lit (.int .u8 8), .lit (.int .u8 7), .lit (.int .u8 6)]
def laid_internal_strconv_uint64pow10 {H : Type} : DataW H := .agg [.lit (.int .u64 1), .lit (.int .u64 10), .lit (.int .u64 100), .lit (.int .u64 1000), .lit (.int .u64 10000), .lit (.int .u64 100000), .lit (.int .u64 1000000), .lit (.int .u64 10000000), .lit (.int .u64 100000000), .lit (.int .u64 1000000000), .lit (.int .u64 10000000000), .lit (.int .u64 100000000000), .lit (.int .u64 1000000000000), .lit (.int .u64 10000000000000), .lit (.int .u64 100000000000000), .lit (.int .u64 1000000000000000), .lit (.int .u64 10000000000000000), .lit (.int .u64 100000000000000000), .lit (.int .u64 1000000000000000000), .lit (.int .u64 10000000000000000000)]

/-- 'laws.FnExactMeetingDay': WHATEVER THE INPUT: true; the input reads as it did. -/
def fnExactMeetingDaySpec : ChangeSpec := { name := "fnExactMeetingDay", vars := ["loop.example/g01353/impl.errInvalid", "loop.example/g01353/impl.errRange", "loop.example/g01353/impl.errLimit", "loop.example/g01353/impl.errState", "loop.example/g01353/impl.errSyntax", "loop.example/g01353/impl.errNotFound", "loop.example/g01353/impl.errProof"], fn := fun _ => fun
  | [d1, d2, d3, d4, g1, g2, g3, g4, g5, g6, g7] => { results := [.lit (.bool true)], args := [d1, d2, d3, d4], vars := [g1, g2, g3, g4, g5, g6, g7] }
  | _ => none }
def fnExactMeetingDayRow : OpenClaim := { program := "ytlfamfdgphhbcaadoor", sum := "808dde9c421efde452fe4b1406c09808a515612d3a5b0ecf363e3918125be94a", func := "loop.example/g01353/laws.FnExactMeetingDay", spec := "fnExactMeetingDay", inPlace := ["internal/reflectlite.TypeOf"], unfollowed := true, recurses := true, named := ["loop.example/g01353/impl.errInvalid", "loop.example/g01353/impl.errRange", "loop.example/g01353/impl.errLimit", "loop.example/g01353/impl.errState", "loop.example/g01353/impl.errSyntax", "loop.example/g01353/impl.errNotFound", "loop.example/g01353/impl.errProof"], ifaces := true, apart := false, laid := [("loop.example/g01353/impl.errInvalid", laid_loop_example_g01353_impl_errInvalid), ("loop.example/g01353/impl.errRange", laid_loop_example_g01353_impl_errRange), ("loop.example/g01353/impl.errLimit", laid_loop_example_g01353_impl_errLimit), ("loop.example/g01353/impl.errState", laid_loop_example_g01353_impl_errState), ("loop.example/g01353/impl.errSyntax", laid_loop_example_g01353_impl_errSyntax), ("loop.example/g01353/impl.errNotFound", laid_loop_example_g01353_impl_errNotFound), ("loop.example/g01353/impl.errProof", laid_loop_example_g01353_impl_errProof)] }
def FnExactMeetingDaySaid : Prop := fnExactMeetingDayRow.holds Tryd.pinned (OpenSpec.ofChange fnExactMeetingDaySpec)

/-- ITS FALSE NEIGHBOUR: 'it returns false'. Refute it at one input. -/
def fnExactMeetingDayWrong : ChangeSpec := { name := "fnExactMeetingDay", vars := ["loop.example/g01353/impl.errInvalid", "loop.example/g01353/impl.errRange", "loop.example/g01353/impl.errLimit", "loop.example/g01353/impl.errState", "loop.example/g01353/impl.errSyntax", "loop.example/g01353/impl.errNotFound", "loop.example/g01353/impl.errProof"], fn := fun _ => fun
  | [d1, d2, d3, d4, g1, g2, g3, g4, g5, g6, g7] => { results := [.lit (.bool false)], args := [d1, d2, d3, d4], vars := [g1, g2, g3, g4, g5, g6, g7] }
  | _ => none }
def FnExactMeetingDayWrongFalsely : Prop := fnExactMeetingDayRow.holds Tryd.pinned (OpenSpec.ofChange fnExactMeetingDayWrong)

/-- 'laws.FnExactSortCrate': WHATEVER THE INPUT: true; the input reads as it did. -/
def fnExactSortCrateSpec : ChangeSpec := { name := "fnExactSortCrate", vars := ["loop.example/g01353/impl.errInvalid", "loop.example/g01353/impl.errRange", "loop.example/g01353/impl.errLimit", "loop.example/g01353/impl.errState", "loop.example/g01353/impl.errSyntax", "loop.example/g01353/impl.errNotFound", "loop.example/g01353/impl.errProof"], fn := fun _ => fun
  | [d, g1, g2, g3, g4, g5, g6, g7] => { results := [.lit (.bool true)], args := [d], vars := [g1, g2, g3, g4, g5, g6, g7] }
  | _ => none }
def fnExactSortCrateRow : OpenClaim := { program := "ytlfamfdgphhbcaadoor", sum := "808dde9c421efde452fe4b1406c09808a515612d3a5b0ecf363e3918125be94a", func := "loop.example/g01353/laws.FnExactSortCrate", spec := "fnExactSortCrate", inPlace := ["internal/reflectlite.TypeOf"], unfollowed := true, recurses := true, named := ["loop.example/g01353/impl.errInvalid", "loop.example/g01353/impl.errRange", "loop.example/g01353/impl.errLimit", "loop.example/g01353/impl.errState", "loop.example/g01353/impl.errSyntax", "loop.example/g01353/impl.errNotFound", "loop.example/g01353/impl.errProof"], ifaces := true, apart := false, laid := [("loop.example/g01353/impl.errInvalid", laid_loop_example_g01353_impl_errInvalid), ("loop.example/g01353/impl.errRange", laid_loop_example_g01353_impl_errRange), ("loop.example/g01353/impl.errLimit", laid_loop_example_g01353_impl_errLimit), ("loop.example/g01353/impl.errState", laid_loop_example_g01353_impl_errState), ("loop.example/g01353/impl.errSyntax", laid_loop_example_g01353_impl_errSyntax), ("loop.example/g01353/impl.errNotFound", laid_loop_example_g01353_impl_errNotFound), ("loop.example/g01353/impl.errProof", laid_loop_example_g01353_impl_errProof)] }
def FnExactSortCrateSaid : Prop := fnExactSortCrateRow.holds Tryd.pinned (OpenSpec.ofChange fnExactSortCrateSpec)

/-- ITS FALSE NEIGHBOUR: 'it returns false'. Refute it at one input. -/
def fnExactSortCrateWrong : ChangeSpec := { name := "fnExactSortCrate", vars := ["loop.example/g01353/impl.errInvalid", "loop.example/g01353/impl.errRange", "loop.example/g01353/impl.errLimit", "loop.example/g01353/impl.errState", "loop.example/g01353/impl.errSyntax", "loop.example/g01353/impl.errNotFound", "loop.example/g01353/impl.errProof"], fn := fun _ => fun
  | [d, g1, g2, g3, g4, g5, g6, g7] => { results := [.lit (.bool false)], args := [d], vars := [g1, g2, g3, g4, g5, g6, g7] }
  | _ => none }
def FnExactSortCrateWrongFalsely : Prop := fnExactSortCrateRow.holds Tryd.pinned (OpenSpec.ofChange fnExactSortCrateWrong)

/-- 'laws.FnExactSortLane': WHATEVER THE INPUT: true; the input reads as it did. -/
def fnExactSortLaneSpec : ChangeSpec := { name := "fnExactSortLane", vars := ["loop.example/g01353/impl.errInvalid", "loop.example/g01353/impl.errRange", "loop.example/g01353/impl.errLimit", "loop.example/g01353/impl.errState", "loop.example/g01353/impl.errSyntax", "loop.example/g01353/impl.errNotFound", "loop.example/g01353/impl.errProof"], fn := fun _ => fun
  | [d1, d2, g1, g2, g3, g4, g5, g6, g7] => { results := [.lit (.bool true)], args := [d1, d2], vars := [g1, g2, g3, g4, g5, g6, g7] }
  | _ => none }
def fnExactSortLaneRow : OpenClaim := { program := "ytlfamfdgphhbcaadoor", sum := "808dde9c421efde452fe4b1406c09808a515612d3a5b0ecf363e3918125be94a", func := "loop.example/g01353/laws.FnExactSortLane", spec := "fnExactSortLane", inPlace := ["internal/reflectlite.TypeOf"], unfollowed := true, recurses := true, named := ["loop.example/g01353/impl.errInvalid", "loop.example/g01353/impl.errRange", "loop.example/g01353/impl.errLimit", "loop.example/g01353/impl.errState", "loop.example/g01353/impl.errSyntax", "loop.example/g01353/impl.errNotFound", "loop.example/g01353/impl.errProof"], ifaces := true, apart := false, laid := [("loop.example/g01353/impl.errInvalid", laid_loop_example_g01353_impl_errInvalid), ("loop.example/g01353/impl.errRange", laid_loop_example_g01353_impl_errRange), ("loop.example/g01353/impl.errLimit", laid_loop_example_g01353_impl_errLimit), ("loop.example/g01353/impl.errState", laid_loop_example_g01353_impl_errState), ("loop.example/g01353/impl.errSyntax", laid_loop_example_g01353_impl_errSyntax), ("loop.example/g01353/impl.errNotFound", laid_loop_example_g01353_impl_errNotFound), ("loop.example/g01353/impl.errProof", laid_loop_example_g01353_impl_errProof)] }
def FnExactSortLaneSaid : Prop := fnExactSortLaneRow.holds Tryd.pinned (OpenSpec.ofChange fnExactSortLaneSpec)

/-- ITS FALSE NEIGHBOUR: 'it returns false'. Refute it at one input. -/
def fnExactSortLaneWrong : ChangeSpec := { name := "fnExactSortLane", vars := ["loop.example/g01353/impl.errInvalid", "loop.example/g01353/impl.errRange", "loop.example/g01353/impl.errLimit", "loop.example/g01353/impl.errState", "loop.example/g01353/impl.errSyntax", "loop.example/g01353/impl.errNotFound", "loop.example/g01353/impl.errProof"], fn := fun _ => fun
  | [d1, d2, g1, g2, g3, g4, g5, g6, g7] => { results := [.lit (.bool false)], args := [d1, d2], vars := [g1, g2, g3, g4, g5, g6, g7] }
  | _ => none }
def FnExactSortLaneWrongFalsely : Prop := fnExactSortLaneRow.holds Tryd.pinned (OpenSpec.ofChange fnExactSortLaneWrong)

/-- 'laws.FnExactCrateText': WHATEVER THE INPUT: true; the input reads as it did. -/
def fnExactCrateTextSpec : ChangeSpec := { name := "fnExactCrateText", fn := fun _ => fun
  | [d] => { results := [.lit (.bool true)], args := [d] }
  | _ => none }
def fnExactCrateTextRow : OpenClaim := { program := "ytlfamfdgphhbcaadoor", sum := "808dde9c421efde452fe4b1406c09808a515612d3a5b0ecf363e3918125be94a", func := "loop.example/g01353/laws.FnExactCrateText", spec := "fnExactCrateText", inPlace := ["internal/abi.NoEscape", "internal/bytealg.MakeNoZero"], unfollowed := true, recurses := true, named := ["internal/strconv.uint64pow10", "math/bits.deBruijn32tab", "math/bits.deBruijn64tab"], apart := false, laid := [("math/bits.deBruijn32tab", laid_math_bits_deBruijn32tab), ("math/bits.deBruijn64tab", laid_math_bits_deBruijn64tab), ("internal/strconv.uint64pow10", laid_internal_strconv_uint64pow10)] }
def FnExactCrateTextSaid : Prop := fnExactCrateTextRow.holds Tryd.pinned (OpenSpec.ofChange fnExactCrateTextSpec)

/-- ITS FALSE NEIGHBOUR: 'it returns false'. Refute it at one input. -/
def fnExactCrateTextWrong : ChangeSpec := { name := "fnExactCrateText", fn := fun _ => fun
  | [d] => { results := [.lit (.bool false)], args := [d] }
  | _ => none }
def FnExactCrateTextWrongFalsely : Prop := fnExactCrateTextRow.holds Tryd.pinned (OpenSpec.ofChange fnExactCrateTextWrong)

/- THE SECOND FORM. 'bulk': how many values and letters a reading holds, each counted each time it is reached (what is shared counts as often as it is met; a slice's spare places count too). A statement '..UptoSaid' is the law's where the arguments, and the package variables that the reading takes, are together of bulk at most 1048576: NARROWER than '..Said'. Prove '..Said' where nothing that the law and all that it calls make is longer than what came in: it says more and counts as full. Else prove '..UptoSaid'. A law counts once. -/
mutual
def uptoBulk {H : Type} : DataW H → Nat
  | .lit (.string bytes) => bytes.length + 1
  | .lit _ => 1
  | .nil => 1
  | .ptr d => uptoBulk d + 1
  | .slice elems spare => uptoBulkAll elems + uptoBulkAll spare + 1
  | .agg parts => uptoBulkAll parts + 1
  | .iface _ d => uptoBulk d + 1
  | .map entries => uptoBulkEntries entries + 1
  | .held _ => 1
def uptoBulkAll {H : Type} : List (DataW H) → Nat
  | [] => 0
  | d :: r => uptoBulk d + uptoBulkAll r
def uptoBulkEntries {H : Type} : List (Lit × DataW H) → Nat
  | [] => 0
  | x :: r => uptoBulkEntry x + uptoBulkEntries r
def uptoBulkEntry {H : Type} : Lit × DataW H → Nat
  | (.string bytes, d) => bytes.length + uptoBulk d + 1
  | (_, d) => uptoBulk d + 1
 end
def uptoSmall : (H : Type) → List (DataW H) → Bool := fun _ ds => decide (uptoBulkAll ds ≤ 1048576)
def OpenSpec.upto (s : _root_.Go.ChangeSpec) : _root_.Go.OpenSpec := { _root_.Go.OpenSpec.ofChange s with cond := some uptoSmall }

/-- 'laws.FnExactMeetingDay', WHERE WHAT IT READS IS OF BULK AT MOST 1048576: true; the input reads as it did. -/
def fnExactMeetingDayUptoRow : OpenClaim := { program := "ytlfamfdgphhbcaadoor", sum := "808dde9c421efde452fe4b1406c09808a515612d3a5b0ecf363e3918125be94a", func := "loop.example/g01353/laws.FnExactMeetingDay", spec := "fnExactMeetingDay", inPlace := ["internal/reflectlite.TypeOf"], unfollowed := true, recurses := true, named := ["loop.example/g01353/impl.errInvalid", "loop.example/g01353/impl.errRange", "loop.example/g01353/impl.errLimit", "loop.example/g01353/impl.errState", "loop.example/g01353/impl.errSyntax", "loop.example/g01353/impl.errNotFound", "loop.example/g01353/impl.errProof"], ifaces := true, apart := false, laid := [("loop.example/g01353/impl.errInvalid", laid_loop_example_g01353_impl_errInvalid), ("loop.example/g01353/impl.errRange", laid_loop_example_g01353_impl_errRange), ("loop.example/g01353/impl.errLimit", laid_loop_example_g01353_impl_errLimit), ("loop.example/g01353/impl.errState", laid_loop_example_g01353_impl_errState), ("loop.example/g01353/impl.errSyntax", laid_loop_example_g01353_impl_errSyntax), ("loop.example/g01353/impl.errNotFound", laid_loop_example_g01353_impl_errNotFound), ("loop.example/g01353/impl.errProof", laid_loop_example_g01353_impl_errProof)], narrowed := true }
def FnExactMeetingDayUptoSaid : Prop := fnExactMeetingDayUptoRow.holds Tryd.pinned (OpenSpec.upto fnExactMeetingDaySpec)

/-- 'laws.FnExactSortCrate', WHERE WHAT IT READS IS OF BULK AT MOST 1048576: true; the input reads as it did. -/
def fnExactSortCrateUptoRow : OpenClaim := { program := "ytlfamfdgphhbcaadoor", sum := "808dde9c421efde452fe4b1406c09808a515612d3a5b0ecf363e3918125be94a", func := "loop.example/g01353/laws.FnExactSortCrate", spec := "fnExactSortCrate", inPlace := ["internal/reflectlite.TypeOf"], unfollowed := true, recurses := true, named := ["loop.example/g01353/impl.errInvalid", "loop.example/g01353/impl.errRange", "loop.example/g01353/impl.errLimit", "loop.example/g01353/impl.errState", "loop.example/g01353/impl.errSyntax", "loop.example/g01353/impl.errNotFound", "loop.example/g01353/impl.errProof"], ifaces := true, apart := false, laid := [("loop.example/g01353/impl.errInvalid", laid_loop_example_g01353_impl_errInvalid), ("loop.example/g01353/impl.errRange", laid_loop_example_g01353_impl_errRange), ("loop.example/g01353/impl.errLimit", laid_loop_example_g01353_impl_errLimit), ("loop.example/g01353/impl.errState", laid_loop_example_g01353_impl_errState), ("loop.example/g01353/impl.errSyntax", laid_loop_example_g01353_impl_errSyntax), ("loop.example/g01353/impl.errNotFound", laid_loop_example_g01353_impl_errNotFound), ("loop.example/g01353/impl.errProof", laid_loop_example_g01353_impl_errProof)], narrowed := true }
def FnExactSortCrateUptoSaid : Prop := fnExactSortCrateUptoRow.holds Tryd.pinned (OpenSpec.upto fnExactSortCrateSpec)

/-- 'laws.FnExactSortLane', WHERE WHAT IT READS IS OF BULK AT MOST 1048576: true; the input reads as it did. -/
def fnExactSortLaneUptoRow : OpenClaim := { program := "ytlfamfdgphhbcaadoor", sum := "808dde9c421efde452fe4b1406c09808a515612d3a5b0ecf363e3918125be94a", func := "loop.example/g01353/laws.FnExactSortLane", spec := "fnExactSortLane", inPlace := ["internal/reflectlite.TypeOf"], unfollowed := true, recurses := true, named := ["loop.example/g01353/impl.errInvalid", "loop.example/g01353/impl.errRange", "loop.example/g01353/impl.errLimit", "loop.example/g01353/impl.errState", "loop.example/g01353/impl.errSyntax", "loop.example/g01353/impl.errNotFound", "loop.example/g01353/impl.errProof"], ifaces := true, apart := false, laid := [("loop.example/g01353/impl.errInvalid", laid_loop_example_g01353_impl_errInvalid), ("loop.example/g01353/impl.errRange", laid_loop_example_g01353_impl_errRange), ("loop.example/g01353/impl.errLimit", laid_loop_example_g01353_impl_errLimit), ("loop.example/g01353/impl.errState", laid_loop_example_g01353_impl_errState), ("loop.example/g01353/impl.errSyntax", laid_loop_example_g01353_impl_errSyntax), ("loop.example/g01353/impl.errNotFound", laid_loop_example_g01353_impl_errNotFound), ("loop.example/g01353/impl.errProof", laid_loop_example_g01353_impl_errProof)], narrowed := true }
def FnExactSortLaneUptoSaid : Prop := fnExactSortLaneUptoRow.holds Tryd.pinned (OpenSpec.upto fnExactSortLaneSpec)

/-- 'laws.FnExactCrateText', WHERE WHAT IT READS IS OF BULK AT MOST 1048576: true; the input reads as it did. -/
def fnExactCrateTextUptoRow : OpenClaim := { program := "ytlfamfdgphhbcaadoor", sum := "808dde9c421efde452fe4b1406c09808a515612d3a5b0ecf363e3918125be94a", func := "loop.example/g01353/laws.FnExactCrateText", spec := "fnExactCrateText", inPlace := ["internal/abi.NoEscape", "internal/bytealg.MakeNoZero"], unfollowed := true, recurses := true, named := ["internal/strconv.uint64pow10", "math/bits.deBruijn32tab", "math/bits.deBruijn64tab"], apart := false, laid := [("math/bits.deBruijn32tab", laid_math_bits_deBruijn32tab), ("math/bits.deBruijn64tab", laid_math_bits_deBruijn64tab), ("internal/strconv.uint64pow10", laid_internal_strconv_uint64pow10)], narrowed := true }
def FnExactCrateTextUptoSaid : Prop := fnExactCrateTextUptoRow.holds Tryd.pinned (OpenSpec.upto fnExactCrateTextSpec)

end Rows
end Go.Proofs.YtlfamfdgphhbcaaDoor
