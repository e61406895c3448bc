/-
  NARROWER THAN 'FOR EVERY INPUT', by the rows' own cells (each row's printed sentence says how): FnExactFreePlaces: ifaces, laid · FnExactBottlesIn: ifaces, laid · FnExactAddBottle: ifaces, laid · FnExactPlaceOf: ifaces, laid · FnExactFillFrom: ifaces, laid · FnExactBottleText: laid · FnExactWantedIn: ifaces, laid.
  DERIVED. THE GIVEN ROWS OF THIS SEAT. 7 by the template 'for every input the law returns true; each argument reads behind the call as it read before'; 0 by the template 'total and deterministic' (their statements: YtmonflmgnaamdaaDoorTotals.lean).
  GIVEN WITH THE SEED: the statements are not yours to turn. If you find one false, say at which input.
  Laid BY PROGRAM, IN A SANDBOX (cutbox-rows.mjs): the forced cells as the released guide's own fill.sh prints them over the translation 400a431cd3904f53… (all of the seat's roots in one cut). By AI agents, Wed Nov 11 2026. No macro, syntax, notation, axiom, sorry.
-/
import Derived.Test.YtmonflmgnaamdaaDoorChecked
import GoSem.Claim
import GoSem.ClaimJoined
import GoSem.ClaimMapViews
import Derived.JoinedTies
import Derived.KernelRfl
namespace Go.Proofs.YtmonflmgnaamdaaDoor
/- THE CELL 'sum', in the pinned program and in every row, IS THE sha256 OF THE DUMP (.gsa) THAT YtmonflmgnaamdaaDoorProg.lean LOADS. Nothing in Lean hashes anything: it is a label: what it is worth is what the hold of that sum in a sandbox is worth. -/
noncomputable def Tryd.pinned : Pinned := { name := "ytmonflmgnaamdaadoor", sum := "400a431cd3904f53192ce69154ae2ea328d10149963228642fc9755ee3cb6590", checked := Tryd.checked }
namespace Rows
def none {H : Type} : Left H := { results := [], args := [] }

/- WHAT THE LISTED PACKAGE-LEVEL VARIABLES READ AS WHEN THE CALL BEGINS. Each datum BY PROGRAM (the guide's laid-datum.mjs) off the statement by which the dump's own 'gosem.cut.vars' lays the variable. In a bare row this is a premise. The card (YtmonflmgnaamdaaDoorCards.lean) ties it to the program's text. -/
def laid_loop_example_g01353_impl_errInvalid {H : Type} : DataW H := .iface "*errors.errorString" (.ptr (.agg [.lit (.string [105, 110, 118, 97, 108, 105, 100])]))
def laid_loop_example_g01353_impl_errRange {H : Type} : DataW H := .iface "*errors.errorString" (.ptr (.agg [.lit (.string [114, 97, 110, 103, 101])]))
def laid_loop_example_g01353_impl_errLimit {H : Type} : DataW H := .iface "*errors.errorString" (.ptr (.agg [.lit (.string [108, 105, 109, 105, 116])]))
def laid_loop_example_g01353_impl_errState {H : Type} : DataW H := .iface "*errors.errorString" (.ptr (.agg [.lit (.string [115, 116, 97, 116, 101])]))
def laid_loop_example_g01353_impl_errSyntax {H : Type} : DataW H := .iface "*errors.errorString" (.ptr (.agg [.lit (.string [115, 121, 110, 116, 97, 120])]))
def laid_loop_example_g01353_impl_errNotFound {H : Type} : DataW H := .iface "*errors.errorString" (.ptr (.agg [.lit (.string [110, 111, 116, 102, 111, 117, 110, 100])]))
def laid_math_bits_deBruijn32tab {H : Type} : DataW H := .agg [.lit (.int .u8 0), .lit (.int .u8 1), .lit (.int .u8 28), .lit (.int .u8 2), .lit (.int .u8 29), .lit (.int .u8 14), .lit (.int .u8 24), .lit (.int .u8 3), .lit (.int .u8 30), .lit (.int .u8 22), .lit (.int .u8 20), .lit (.int .u8 15), .lit (.int .u8 25), .lit (.int .u8 17), .lit (.int .u8 4), .lit (.int .u8 8), .lit (.int .u8 31), .lit (.int .u8 27), .lit (.int .u8 13), .lit (.int .u8 23), .lit (.int .u8 21), .lit (.int .u8 19), .lit (.int .u8 16), .lit (.int .u8 7), .lit (.int .u8 26), .lit (.int .u8 12), .lit (.int .u8 18), .lit (.int .u8 6), .lit (.int .u8 11), .lit (.int .u8 5), .lit (.int .u8 10), .lit (.int .u8 9)]
def laid_math_bits_deBruijn64tab {H : Type} : DataW H := .agg [.lit (.int .u8 0), .lit (.int .u8 1), .lit (.int .u8 56), .lit (.int .u8 2), .lit (.int .u8 57), .lit (.int .u8 49), .lit (.int .u8 28), .lit (.int .u8 3), .lit (.int .u8 61), .lit (.int .u8 58), .lit (.int .u8 42), .lit (.int .u8 50), .lit (.int .u8 38), .lit (.int .u8 29), .lit (.int .u8 17), .lit (.int .u8 4), .lit (.int .u8 62), .lit (.int .u8 47), .lit (.int .u8 59), .lit (.int .u8 36), .lit (.int .u8 45), .lit (.int .u8 43), .lit (.int .u8 51), .lit (.int .u8 22), .lit (.int .u8 53), .lit (.int .u8 39), .lit (.int .u8 33), .lit (.int .u8 30), .lit (.int .u8 24), .lit (.int .u8 18), .lit (.int .u8 12), .lit (.int .u8 5), .lit (.int .u8 63), .lit (.int .u8 55), .lit (.int .u8 48), .lit (.int .u8 27), .lit (.int .u8 60), .lit (.int .u8 41), .lit (.int .u8 37), .lit (.int .u8 16), .lit (.int .u8 46), .lit (.int .u8 35), .lit (.int .u8 44), .lit (.int .u8 21), .lit (.int .u8 52), .lit (.int .u8 32), .lit (.int .u8 23), .lit (.int .u8 11), .lit (.int .u8 54), .lit (.int .u8 26), .lit (.int .u8 40), .lit (.int .u8 15), .lit (.int .u8 34), .lit (.int .u8 20), .lit (.int .u8 31), .lit (.int .u8 10), .lit (.int .u8 25), .lit (.int .u8 14), .lit (.int .u8 19), .lit (.int .u8 9), .lit (.int .u8 13), .lit (.int .u8 8), .lit (.int .u8 7), .lit (.int .u8 6)]
def laid_internal_strconv_uint64pow10 {H : Type} : DataW H := .agg [.lit (.int .u64 1), .lit (.int .u64 10), .lit (.int .u64 100), .lit (.int .u64 1000), .lit (.int .u64 10000), .lit (.int .u64 100000), .lit (.int .u64 1000000), .lit (.int .u64 10000000), .lit (.int .u64 100000000), .lit (.int .u64 1000000000), .lit (.int .u64 10000000000), .lit (.int .u64 100000000000), .lit (.int .u64 1000000000000), .lit (.int .u64 10000000000000), .lit (.int .u64 100000000000000), .lit (.int .u64 1000000000000000), .lit (.int .u64 10000000000000000), .lit (.int .u64 100000000000000000), .lit (.int .u64 1000000000000000000), .lit (.int .u64 10000000000000000000)]

/-- 'laws.FnExactFreePlaces': WHATEVER THE INPUT: true; the input reads as it did. -/
def fnExactFreePlacesSpec : ChangeSpec := { name := "fnExactFreePlaces", vars := ["loop.example/g01353/impl.errInvalid", "loop.example/g01353/impl.errRange", "loop.example/g01353/impl.errLimit", "loop.example/g01353/impl.errState", "loop.example/g01353/impl.errSyntax", "loop.example/g01353/impl.errNotFound"], fn := fun _ => fun
  | [d, g1, g2, g3, g4, g5, g6] => { results := [.lit (.bool true)], args := [d], vars := [g1, g2, g3, g4, g5, g6] }
  | _ => none }
def fnExactFreePlacesRow : OpenClaim := { program := "ytmonflmgnaamdaadoor", sum := "400a431cd3904f53192ce69154ae2ea328d10149963228642fc9755ee3cb6590", func := "loop.example/g01353/laws.FnExactFreePlaces", spec := "fnExactFreePlaces", inPlace := ["internal/reflectlite.TypeOf"], unfollowed := true, recurses := true, named := ["loop.example/g01353/impl.errInvalid", "loop.example/g01353/impl.errRange", "loop.example/g01353/impl.errLimit", "loop.example/g01353/impl.errState", "loop.example/g01353/impl.errSyntax", "loop.example/g01353/impl.errNotFound"], ifaces := true, apart := false, laid := [("loop.example/g01353/impl.errInvalid", laid_loop_example_g01353_impl_errInvalid), ("loop.example/g01353/impl.errRange", laid_loop_example_g01353_impl_errRange), ("loop.example/g01353/impl.errLimit", laid_loop_example_g01353_impl_errLimit), ("loop.example/g01353/impl.errState", laid_loop_example_g01353_impl_errState), ("loop.example/g01353/impl.errSyntax", laid_loop_example_g01353_impl_errSyntax), ("loop.example/g01353/impl.errNotFound", laid_loop_example_g01353_impl_errNotFound)] }
def FnExactFreePlacesSaid : Prop := fnExactFreePlacesRow.holds Tryd.pinned (OpenSpec.ofChange fnExactFreePlacesSpec)

/-- ITS FALSE NEIGHBOUR: 'it returns false'. Refute it at one input. -/
def fnExactFreePlacesWrong : ChangeSpec := { name := "fnExactFreePlaces", vars := ["loop.example/g01353/impl.errInvalid", "loop.example/g01353/impl.errRange", "loop.example/g01353/impl.errLimit", "loop.example/g01353/impl.errState", "loop.example/g01353/impl.errSyntax", "loop.example/g01353/impl.errNotFound"], fn := fun _ => fun
  | [d, g1, g2, g3, g4, g5, g6] => { results := [.lit (.bool false)], args := [d], vars := [g1, g2, g3, g4, g5, g6] }
  | _ => none }
def FnExactFreePlacesWrongFalsely : Prop := fnExactFreePlacesRow.holds Tryd.pinned (OpenSpec.ofChange fnExactFreePlacesWrong)

/-- 'laws.FnExactBottlesIn': WHATEVER THE INPUT: true; the input reads as it did. -/
def fnExactBottlesInSpec : ChangeSpec := { name := "fnExactBottlesIn", vars := ["loop.example/g01353/impl.errInvalid", "loop.example/g01353/impl.errRange", "loop.example/g01353/impl.errLimit", "loop.example/g01353/impl.errState", "loop.example/g01353/impl.errSyntax", "loop.example/g01353/impl.errNotFound"], fn := fun _ => fun
  | [d, g1, g2, g3, g4, g5, g6] => { results := [.lit (.bool true)], args := [d], vars := [g1, g2, g3, g4, g5, g6] }
  | _ => none }
def fnExactBottlesInRow : OpenClaim := { program := "ytmonflmgnaamdaadoor", sum := "400a431cd3904f53192ce69154ae2ea328d10149963228642fc9755ee3cb6590", func := "loop.example/g01353/laws.FnExactBottlesIn", spec := "fnExactBottlesIn", inPlace := ["internal/reflectlite.TypeOf"], unfollowed := true, recurses := true, named := ["loop.example/g01353/impl.errInvalid", "loop.example/g01353/impl.errRange", "loop.example/g01353/impl.errLimit", "loop.example/g01353/impl.errState", "loop.example/g01353/impl.errSyntax", "loop.example/g01353/impl.errNotFound"], ifaces := true, apart := false, laid := [("loop.example/g01353/impl.errInvalid", laid_loop_example_g01353_impl_errInvalid), ("loop.example/g01353/impl.errRange", laid_loop_example_g01353_impl_errRange), ("loop.example/g01353/impl.errLimit", laid_loop_example_g01353_impl_errLimit), ("loop.example/g01353/impl.errState", laid_loop_example_g01353_impl_errState), ("loop.example/g01353/impl.errSyntax", laid_loop_example_g01353_impl_errSyntax), ("loop.example/g01353/impl.errNotFound", laid_loop_example_g01353_impl_errNotFound)] }
def FnExactBottlesInSaid : Prop := fnExactBottlesInRow.holds Tryd.pinned (OpenSpec.ofChange fnExactBottlesInSpec)

/-- ITS FALSE NEIGHBOUR: 'it returns false'. Refute it at one input. -/
def fnExactBottlesInWrong : ChangeSpec := { name := "fnExactBottlesIn", vars := ["loop.example/g01353/impl.errInvalid", "loop.example/g01353/impl.errRange", "loop.example/g01353/impl.errLimit", "loop.example/g01353/impl.errState", "loop.example/g01353/impl.errSyntax", "loop.example/g01353/impl.errNotFound"], fn := fun _ => fun
  | [d, g1, g2, g3, g4, g5, g6] => { results := [.lit (.bool false)], args := [d], vars := [g1, g2, g3, g4, g5, g6] }
  | _ => none }
def FnExactBottlesInWrongFalsely : Prop := fnExactBottlesInRow.holds Tryd.pinned (OpenSpec.ofChange fnExactBottlesInWrong)

/-- 'laws.FnExactAddBottle': WHATEVER THE INPUT: true; the input reads as it did. -/
def fnExactAddBottleSpec : ChangeSpec := { name := "fnExactAddBottle", vars := ["loop.example/g01353/impl.errLimit", "loop.example/g01353/impl.errInvalid", "loop.example/g01353/impl.errRange", "loop.example/g01353/impl.errState", "loop.example/g01353/impl.errSyntax", "loop.example/g01353/impl.errNotFound"], fn := fun _ => fun
  | [d1, d2, g1, g2, g3, g4, g5, g6] => { results := [.lit (.bool true)], args := [d1, d2], vars := [g1, g2, g3, g4, g5, g6] }
  | _ => none }
def fnExactAddBottleRow : OpenClaim := { program := "ytmonflmgnaamdaadoor", sum := "400a431cd3904f53192ce69154ae2ea328d10149963228642fc9755ee3cb6590", func := "loop.example/g01353/laws.FnExactAddBottle", spec := "fnExactAddBottle", inPlace := ["internal/reflectlite.TypeOf"], unfollowed := true, recurses := true, named := ["loop.example/g01353/impl.errLimit", "loop.example/g01353/impl.errInvalid", "loop.example/g01353/impl.errRange", "loop.example/g01353/impl.errState", "loop.example/g01353/impl.errSyntax", "loop.example/g01353/impl.errNotFound"], ifaces := true, apart := false, laid := [("loop.example/g01353/impl.errInvalid", laid_loop_example_g01353_impl_errInvalid), ("loop.example/g01353/impl.errRange", laid_loop_example_g01353_impl_errRange), ("loop.example/g01353/impl.errLimit", laid_loop_example_g01353_impl_errLimit), ("loop.example/g01353/impl.errState", laid_loop_example_g01353_impl_errState), ("loop.example/g01353/impl.errSyntax", laid_loop_example_g01353_impl_errSyntax), ("loop.example/g01353/impl.errNotFound", laid_loop_example_g01353_impl_errNotFound)] }
def FnExactAddBottleSaid : Prop := fnExactAddBottleRow.holds Tryd.pinned (OpenSpec.ofChange fnExactAddBottleSpec)

/-- ITS FALSE NEIGHBOUR: 'it returns false'. Refute it at one input. -/
def fnExactAddBottleWrong : ChangeSpec := { name := "fnExactAddBottle", vars := ["loop.example/g01353/impl.errLimit", "loop.example/g01353/impl.errInvalid", "loop.example/g01353/impl.errRange", "loop.example/g01353/impl.errState", "loop.example/g01353/impl.errSyntax", "loop.example/g01353/impl.errNotFound"], fn := fun _ => fun
  | [d1, d2, g1, g2, g3, g4, g5, g6] => { results := [.lit (.bool false)], args := [d1, d2], vars := [g1, g2, g3, g4, g5, g6] }
  | _ => none }
def FnExactAddBottleWrongFalsely : Prop := fnExactAddBottleRow.holds Tryd.pinned (OpenSpec.ofChange fnExactAddBottleWrong)

/-- 'laws.FnExactPlaceOf': WHATEVER THE INPUT: true; the input reads as it did. -/
def fnExactPlaceOfSpec : ChangeSpec := { name := "fnExactPlaceOf", vars := ["loop.example/g01353/impl.errInvalid", "loop.example/g01353/impl.errRange", "loop.example/g01353/impl.errLimit", "loop.example/g01353/impl.errState", "loop.example/g01353/impl.errSyntax", "loop.example/g01353/impl.errNotFound"], fn := fun _ => fun
  | [d1, d2, g1, g2, g3, g4, g5, g6] => { results := [.lit (.bool true)], args := [d1, d2], vars := [g1, g2, g3, g4, g5, g6] }
  | _ => none }
def fnExactPlaceOfRow : OpenClaim := { program := "ytmonflmgnaamdaadoor", sum := "400a431cd3904f53192ce69154ae2ea328d10149963228642fc9755ee3cb6590", func := "loop.example/g01353/laws.FnExactPlaceOf", spec := "fnExactPlaceOf", inPlace := ["internal/reflectlite.TypeOf"], unfollowed := true, recurses := true, named := ["loop.example/g01353/impl.errInvalid", "loop.example/g01353/impl.errRange", "loop.example/g01353/impl.errLimit", "loop.example/g01353/impl.errState", "loop.example/g01353/impl.errSyntax", "loop.example/g01353/impl.errNotFound"], ifaces := true, apart := false, laid := [("loop.example/g01353/impl.errInvalid", laid_loop_example_g01353_impl_errInvalid), ("loop.example/g01353/impl.errRange", laid_loop_example_g01353_impl_errRange), ("loop.example/g01353/impl.errLimit", laid_loop_example_g01353_impl_errLimit), ("loop.example/g01353/impl.errState", laid_loop_example_g01353_impl_errState), ("loop.example/g01353/impl.errSyntax", laid_loop_example_g01353_impl_errSyntax), ("loop.example/g01353/impl.errNotFound", laid_loop_example_g01353_impl_errNotFound)] }
def FnExactPlaceOfSaid : Prop := fnExactPlaceOfRow.holds Tryd.pinned (OpenSpec.ofChange fnExactPlaceOfSpec)

/-- ITS FALSE NEIGHBOUR: 'it returns false'. Refute it at one input. -/
def fnExactPlaceOfWrong : ChangeSpec := { name := "fnExactPlaceOf", vars := ["loop.example/g01353/impl.errInvalid", "loop.example/g01353/impl.errRange", "loop.example/g01353/impl.errLimit", "loop.example/g01353/impl.errState", "loop.example/g01353/impl.errSyntax", "loop.example/g01353/impl.errNotFound"], fn := fun _ => fun
  | [d1, d2, g1, g2, g3, g4, g5, g6] => { results := [.lit (.bool false)], args := [d1, d2], vars := [g1, g2, g3, g4, g5, g6] }
  | _ => none }
def FnExactPlaceOfWrongFalsely : Prop := fnExactPlaceOfRow.holds Tryd.pinned (OpenSpec.ofChange fnExactPlaceOfWrong)

/-- 'laws.FnExactFillFrom': WHATEVER THE INPUT: true; the input reads as it did. -/
def fnExactFillFromSpec : ChangeSpec := { name := "fnExactFillFrom", vars := ["loop.example/g01353/impl.errInvalid", "loop.example/g01353/impl.errRange", "loop.example/g01353/impl.errLimit", "loop.example/g01353/impl.errState", "loop.example/g01353/impl.errSyntax", "loop.example/g01353/impl.errNotFound"], fn := fun _ => fun
  | [d1, d2, g1, g2, g3, g4, g5, g6] => { results := [.lit (.bool true)], args := [d1, d2], vars := [g1, g2, g3, g4, g5, g6] }
  | _ => none }
def fnExactFillFromRow : OpenClaim := { program := "ytmonflmgnaamdaadoor", sum := "400a431cd3904f53192ce69154ae2ea328d10149963228642fc9755ee3cb6590", func := "loop.example/g01353/laws.FnExactFillFrom", spec := "fnExactFillFrom", inPlace := ["internal/reflectlite.TypeOf"], unfollowed := true, recurses := true, named := ["loop.example/g01353/impl.errInvalid", "loop.example/g01353/impl.errRange", "loop.example/g01353/impl.errLimit", "loop.example/g01353/impl.errState", "loop.example/g01353/impl.errSyntax", "loop.example/g01353/impl.errNotFound"], ifaces := true, apart := false, laid := [("loop.example/g01353/impl.errInvalid", laid_loop_example_g01353_impl_errInvalid), ("loop.example/g01353/impl.errRange", laid_loop_example_g01353_impl_errRange), ("loop.example/g01353/impl.errLimit", laid_loop_example_g01353_impl_errLimit), ("loop.example/g01353/impl.errState", laid_loop_example_g01353_impl_errState), ("loop.example/g01353/impl.errSyntax", laid_loop_example_g01353_impl_errSyntax), ("loop.example/g01353/impl.errNotFound", laid_loop_example_g01353_impl_errNotFound)] }
def FnExactFillFromSaid : Prop := fnExactFillFromRow.holds Tryd.pinned (OpenSpec.ofChange fnExactFillFromSpec)

/-- ITS FALSE NEIGHBOUR: 'it returns false'. Refute it at one input. -/
def fnExactFillFromWrong : ChangeSpec := { name := "fnExactFillFrom", vars := ["loop.example/g01353/impl.errInvalid", "loop.example/g01353/impl.errRange", "loop.example/g01353/impl.errLimit", "loop.example/g01353/impl.errState", "loop.example/g01353/impl.errSyntax", "loop.example/g01353/impl.errNotFound"], fn := fun _ => fun
  | [d1, d2, g1, g2, g3, g4, g5, g6] => { results := [.lit (.bool false)], args := [d1, d2], vars := [g1, g2, g3, g4, g5, g6] }
  | _ => none }
def FnExactFillFromWrongFalsely : Prop := fnExactFillFromRow.holds Tryd.pinned (OpenSpec.ofChange fnExactFillFromWrong)

/-- 'laws.FnExactBottleText': WHATEVER THE INPUT: true; the input reads as it did. -/
def fnExactBottleTextSpec : ChangeSpec := { name := "fnExactBottleText", fn := fun _ => fun
  | [d] => { results := [.lit (.bool true)], args := [d] }
  | _ => none }
def fnExactBottleTextRow : OpenClaim := { program := "ytmonflmgnaamdaadoor", sum := "400a431cd3904f53192ce69154ae2ea328d10149963228642fc9755ee3cb6590", func := "loop.example/g01353/laws.FnExactBottleText", spec := "fnExactBottleText", recurses := true, named := ["internal/strconv.uint64pow10", "math/bits.deBruijn32tab", "math/bits.deBruijn64tab"], apart := false, laid := [("math/bits.deBruijn32tab", laid_math_bits_deBruijn32tab), ("math/bits.deBruijn64tab", laid_math_bits_deBruijn64tab), ("internal/strconv.uint64pow10", laid_internal_strconv_uint64pow10)] }
def FnExactBottleTextSaid : Prop := fnExactBottleTextRow.holds Tryd.pinned (OpenSpec.ofChange fnExactBottleTextSpec)

/-- ITS FALSE NEIGHBOUR: 'it returns false'. Refute it at one input. -/
def fnExactBottleTextWrong : ChangeSpec := { name := "fnExactBottleText", fn := fun _ => fun
  | [d] => { results := [.lit (.bool false)], args := [d] }
  | _ => none }
def FnExactBottleTextWrongFalsely : Prop := fnExactBottleTextRow.holds Tryd.pinned (OpenSpec.ofChange fnExactBottleTextWrong)

/-- 'laws.FnExactWantedIn': WHATEVER THE INPUT: true; the input reads as it did. -/
def fnExactWantedInSpec : ChangeSpec := { name := "fnExactWantedIn", vars := ["loop.example/g01353/impl.errInvalid", "loop.example/g01353/impl.errRange", "loop.example/g01353/impl.errLimit", "loop.example/g01353/impl.errState", "loop.example/g01353/impl.errSyntax", "loop.example/g01353/impl.errNotFound"], fn := fun _ => fun
  | [d, g1, g2, g3, g4, g5, g6] => { results := [.lit (.bool true)], args := [d], vars := [g1, g2, g3, g4, g5, g6] }
  | _ => none }
def fnExactWantedInRow : OpenClaim := { program := "ytmonflmgnaamdaadoor", sum := "400a431cd3904f53192ce69154ae2ea328d10149963228642fc9755ee3cb6590", func := "loop.example/g01353/laws.FnExactWantedIn", spec := "fnExactWantedIn", inPlace := ["internal/reflectlite.TypeOf"], unfollowed := true, recurses := true, named := ["loop.example/g01353/impl.errInvalid", "loop.example/g01353/impl.errRange", "loop.example/g01353/impl.errLimit", "loop.example/g01353/impl.errState", "loop.example/g01353/impl.errSyntax", "loop.example/g01353/impl.errNotFound"], ifaces := true, apart := false, laid := [("loop.example/g01353/impl.errInvalid", laid_loop_example_g01353_impl_errInvalid), ("loop.example/g01353/impl.errRange", laid_loop_example_g01353_impl_errRange), ("loop.example/g01353/impl.errLimit", laid_loop_example_g01353_impl_errLimit), ("loop.example/g01353/impl.errState", laid_loop_example_g01353_impl_errState), ("loop.example/g01353/impl.errSyntax", laid_loop_example_g01353_impl_errSyntax), ("loop.example/g01353/impl.errNotFound", laid_loop_example_g01353_impl_errNotFound)] }
def FnExactWantedInSaid : Prop := fnExactWantedInRow.holds Tryd.pinned (OpenSpec.ofChange fnExactWantedInSpec)

/-- ITS FALSE NEIGHBOUR: 'it returns false'. Refute it at one input. -/
def fnExactWantedInWrong : ChangeSpec := { name := "fnExactWantedIn", vars := ["loop.example/g01353/impl.errInvalid", "loop.example/g01353/impl.errRange", "loop.example/g01353/impl.errLimit", "loop.example/g01353/impl.errState", "loop.example/g01353/impl.errSyntax", "loop.example/g01353/impl.errNotFound"], fn := fun _ => fun
  | [d, g1, g2, g3, g4, g5, g6] => { results := [.lit (.bool false)], args := [d], vars := [g1, g2, g3, g4, g5, g6] }
  | _ => none }
def FnExactWantedInWrongFalsely : Prop := fnExactWantedInRow.holds Tryd.pinned (OpenSpec.ofChange fnExactWantedInWrong)

/- THE SECOND FORM. 'bulk': how many values and letters a reading holds, each counted each time it is reached (what is shared counts as often as it is met; a slice's spare places count too). A statement '..UptoSaid' is the law's where the arguments, and the package variables that the reading takes, are together of bulk at most 1048576: NARROWER than '..Said'. Prove '..Said' where nothing that the law and all that it calls make is longer than what came in: it says more and counts as full. Else prove '..UptoSaid'. A law counts once. -/
mutual
def uptoBulk {H : Type} : DataW H → Nat
  | .lit (.string bytes) => bytes.length + 1
  | .lit _ => 1
  | .nil => 1
  | .ptr d => uptoBulk d + 1
  | .slice elems spare => uptoBulkAll elems + uptoBulkAll spare + 1
  | .agg parts => uptoBulkAll parts + 1
  | .iface _ d => uptoBulk d + 1
  | .map entries => uptoBulkEntries entries + 1
  | .held _ => 1
def uptoBulkAll {H : Type} : List (DataW H) → Nat
  | [] => 0
  | d :: r => uptoBulk d + uptoBulkAll r
def uptoBulkEntries {H : Type} : List (Lit × DataW H) → Nat
  | [] => 0
  | x :: r => uptoBulkEntry x + uptoBulkEntries r
def uptoBulkEntry {H : Type} : Lit × DataW H → Nat
  | (.string bytes, d) => bytes.length + uptoBulk d + 1
  | (_, d) => uptoBulk d + 1
 end
def uptoSmall : (H : Type) → List (DataW H) → Bool := fun _ ds => decide (uptoBulkAll ds ≤ 1048576)
def OpenSpec.upto (s : _root_.Go.ChangeSpec) : _root_.Go.OpenSpec := { _root_.Go.OpenSpec.ofChange s with cond := some uptoSmall }

/-- 'laws.FnExactFreePlaces', WHERE WHAT IT READS IS OF BULK AT MOST 1048576: true; the input reads as it did. -/
def fnExactFreePlacesUptoRow : OpenClaim := { program := "ytmonflmgnaamdaadoor", sum := "400a431cd3904f53192ce69154ae2ea328d10149963228642fc9755ee3cb6590", func := "loop.example/g01353/laws.FnExactFreePlaces", spec := "fnExactFreePlaces", inPlace := ["internal/reflectlite.TypeOf"], unfollowed := true, recurses := true, named := ["loop.example/g01353/impl.errInvalid", "loop.example/g01353/impl.errRange", "loop.example/g01353/impl.errLimit", "loop.example/g01353/impl.errState", "loop.example/g01353/impl.errSyntax", "loop.example/g01353/impl.errNotFound"], ifaces := true, apart := false, laid := [("loop.example/g01353/impl.errInvalid", laid_loop_example_g01353_impl_errInvalid), ("loop.example/g01353/impl.errRange", laid_loop_example_g01353_impl_errRange), ("loop.example/g01353/impl.errLimit", laid_loop_example_g01353_impl_errLimit), ("loop.example/g01353/impl.errState", laid_loop_example_g01353_impl_errState), ("loop.example/g01353/impl.errSyntax", laid_loop_example_g01353_impl_errSyntax), ("loop.example/g01353/impl.errNotFound", laid_loop_example_g01353_impl_errNotFound)], narrowed := true }
def FnExactFreePlacesUptoSaid : Prop := fnExactFreePlacesUptoRow.holds Tryd.pinned (OpenSpec.upto fnExactFreePlacesSpec)

/-- 'laws.FnExactBottlesIn', WHERE WHAT IT READS IS OF BULK AT MOST 1048576: true; the input reads as it did. -/
def fnExactBottlesInUptoRow : OpenClaim := { program := "ytmonflmgnaamdaadoor", sum := "400a431cd3904f53192ce69154ae2ea328d10149963228642fc9755ee3cb6590", func := "loop.example/g01353/laws.FnExactBottlesIn", spec := "fnExactBottlesIn", inPlace := ["internal/reflectlite.TypeOf"], unfollowed := true, recurses := true, named := ["loop.example/g01353/impl.errInvalid", "loop.example/g01353/impl.errRange", "loop.example/g01353/impl.errLimit", "loop.example/g01353/impl.errState", "loop.example/g01353/impl.errSyntax", "loop.example/g01353/impl.errNotFound"], ifaces := true, apart := false, laid := [("loop.example/g01353/impl.errInvalid", laid_loop_example_g01353_impl_errInvalid), ("loop.example/g01353/impl.errRange", laid_loop_example_g01353_impl_errRange), ("loop.example/g01353/impl.errLimit", laid_loop_example_g01353_impl_errLimit), ("loop.example/g01353/impl.errState", laid_loop_example_g01353_impl_errState), ("loop.example/g01353/impl.errSyntax", laid_loop_example_g01353_impl_errSyntax), ("loop.example/g01353/impl.errNotFound", laid_loop_example_g01353_impl_errNotFound)], narrowed := true }
def FnExactBottlesInUptoSaid : Prop := fnExactBottlesInUptoRow.holds Tryd.pinned (OpenSpec.upto fnExactBottlesInSpec)

/-- 'laws.FnExactAddBottle', WHERE WHAT IT READS IS OF BULK AT MOST 1048576: true; the input reads as it did. -/
def fnExactAddBottleUptoRow : OpenClaim := { program := "ytmonflmgnaamdaadoor", sum := "400a431cd3904f53192ce69154ae2ea328d10149963228642fc9755ee3cb6590", func := "loop.example/g01353/laws.FnExactAddBottle", spec := "fnExactAddBottle", inPlace := ["internal/reflectlite.TypeOf"], unfollowed := true, recurses := true, named := ["loop.example/g01353/impl.errLimit", "loop.example/g01353/impl.errInvalid", "loop.example/g01353/impl.errRange", "loop.example/g01353/impl.errState", "loop.example/g01353/impl.errSyntax", "loop.example/g01353/impl.errNotFound"], ifaces := true, apart := false, laid := [("loop.example/g01353/impl.errInvalid", laid_loop_example_g01353_impl_errInvalid), ("loop.example/g01353/impl.errRange", laid_loop_example_g01353_impl_errRange), ("loop.example/g01353/impl.errLimit", laid_loop_example_g01353_impl_errLimit), ("loop.example/g01353/impl.errState", laid_loop_example_g01353_impl_errState), ("loop.example/g01353/impl.errSyntax", laid_loop_example_g01353_impl_errSyntax), ("loop.example/g01353/impl.errNotFound", laid_loop_example_g01353_impl_errNotFound)], narrowed := true }
def FnExactAddBottleUptoSaid : Prop := fnExactAddBottleUptoRow.holds Tryd.pinned (OpenSpec.upto fnExactAddBottleSpec)

/-- 'laws.FnExactPlaceOf', WHERE WHAT IT READS IS OF BULK AT MOST 1048576: true; the input reads as it did. -/
def fnExactPlaceOfUptoRow : OpenClaim := { program := "ytmonflmgnaamdaadoor", sum := "400a431cd3904f53192ce69154ae2ea328d10149963228642fc9755ee3cb6590", func := "loop.example/g01353/laws.FnExactPlaceOf", spec := "fnExactPlaceOf", inPlace := ["internal/reflectlite.TypeOf"], unfollowed := true, recurses := true, named := ["loop.example/g01353/impl.errInvalid", "loop.example/g01353/impl.errRange", "loop.example/g01353/impl.errLimit", "loop.example/g01353/impl.errState", "loop.example/g01353/impl.errSyntax", "loop.example/g01353/impl.errNotFound"], ifaces := true, apart := false, laid := [("loop.example/g01353/impl.errInvalid", laid_loop_example_g01353_impl_errInvalid), ("loop.example/g01353/impl.errRange", laid_loop_example_g01353_impl_errRange), ("loop.example/g01353/impl.errLimit", laid_loop_example_g01353_impl_errLimit), ("loop.example/g01353/impl.errState", laid_loop_example_g01353_impl_errState), ("loop.example/g01353/impl.errSyntax", laid_loop_example_g01353_impl_errSyntax), ("loop.example/g01353/impl.errNotFound", laid_loop_example_g01353_impl_errNotFound)], narrowed := true }
def FnExactPlaceOfUptoSaid : Prop := fnExactPlaceOfUptoRow.holds Tryd.pinned (OpenSpec.upto fnExactPlaceOfSpec)

/-- 'laws.FnExactFillFrom', WHERE WHAT IT READS IS OF BULK AT MOST 1048576: true; the input reads as it did. -/
def fnExactFillFromUptoRow : OpenClaim := { program := "ytmonflmgnaamdaadoor", sum := "400a431cd3904f53192ce69154ae2ea328d10149963228642fc9755ee3cb6590", func := "loop.example/g01353/laws.FnExactFillFrom", spec := "fnExactFillFrom", inPlace := ["internal/reflectlite.TypeOf"], unfollowed := true, recurses := true, named := ["loop.example/g01353/impl.errInvalid", "loop.example/g01353/impl.errRange", "loop.example/g01353/impl.errLimit", "loop.example/g01353/impl.errState", "loop.example/g01353/impl.errSyntax", "loop.example/g01353/impl.errNotFound"], ifaces := true, apart := false, laid := [("loop.example/g01353/impl.errInvalid", laid_loop_example_g01353_impl_errInvalid), ("loop.example/g01353/impl.errRange", laid_loop_example_g01353_impl_errRange), ("loop.example/g01353/impl.errLimit", laid_loop_example_g01353_impl_errLimit), ("loop.example/g01353/impl.errState", laid_loop_example_g01353_impl_errState), ("loop.example/g01353/impl.errSyntax", laid_loop_example_g01353_impl_errSyntax), ("loop.example/g01353/impl.errNotFound", laid_loop_example_g01353_impl_errNotFound)], narrowed := true }
def FnExactFillFromUptoSaid : Prop := fnExactFillFromUptoRow.holds Tryd.pinned (OpenSpec.upto fnExactFillFromSpec)

/-- 'laws.FnExactBottleText', WHERE WHAT IT READS IS OF BULK AT MOST 1048576: true; the input reads as it did. -/
def fnExactBottleTextUptoRow : OpenClaim := { program := "ytmonflmgnaamdaadoor", sum := "400a431cd3904f53192ce69154ae2ea328d10149963228642fc9755ee3cb6590", func := "loop.example/g01353/laws.FnExactBottleText", spec := "fnExactBottleText", recurses := true, named := ["internal/strconv.uint64pow10", "math/bits.deBruijn32tab", "math/bits.deBruijn64tab"], apart := false, laid := [("math/bits.deBruijn32tab", laid_math_bits_deBruijn32tab), ("math/bits.deBruijn64tab", laid_math_bits_deBruijn64tab), ("internal/strconv.uint64pow10", laid_internal_strconv_uint64pow10)], narrowed := true }
def FnExactBottleTextUptoSaid : Prop := fnExactBottleTextUptoRow.holds Tryd.pinned (OpenSpec.upto fnExactBottleTextSpec)

/-- 'laws.FnExactWantedIn', WHERE WHAT IT READS IS OF BULK AT MOST 1048576: true; the input reads as it did. -/
def fnExactWantedInUptoRow : OpenClaim := { program := "ytmonflmgnaamdaadoor", sum := "400a431cd3904f53192ce69154ae2ea328d10149963228642fc9755ee3cb6590", func := "loop.example/g01353/laws.FnExactWantedIn", spec := "fnExactWantedIn", inPlace := ["internal/reflectlite.TypeOf"], unfollowed := true, recurses := true, named := ["loop.example/g01353/impl.errInvalid", "loop.example/g01353/impl.errRange", "loop.example/g01353/impl.errLimit", "loop.example/g01353/impl.errState", "loop.example/g01353/impl.errSyntax", "loop.example/g01353/impl.errNotFound"], ifaces := true, apart := false, laid := [("loop.example/g01353/impl.errInvalid", laid_loop_example_g01353_impl_errInvalid), ("loop.example/g01353/impl.errRange", laid_loop_example_g01353_impl_errRange), ("loop.example/g01353/impl.errLimit", laid_loop_example_g01353_impl_errLimit), ("loop.example/g01353/impl.errState", laid_loop_example_g01353_impl_errState), ("loop.example/g01353/impl.errSyntax", laid_loop_example_g01353_impl_errSyntax), ("loop.example/g01353/impl.errNotFound", laid_loop_example_g01353_impl_errNotFound)], narrowed := true }
def FnExactWantedInUptoSaid : Prop := fnExactWantedInUptoRow.holds Tryd.pinned (OpenSpec.upto fnExactWantedInSpec)

end Rows
end Go.Proofs.YtmonflmgnaamdaaDoor
