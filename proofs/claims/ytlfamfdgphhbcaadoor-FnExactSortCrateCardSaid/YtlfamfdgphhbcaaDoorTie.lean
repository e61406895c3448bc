/-
  DERIVED. GIVEN WITH THE SEED: THE PROGRAM's TIES (one call each: nine closed facts by the kernel) AND EACH ROW's TIE, after the 31st guide's Derived/Test/Toyas{Tie, Card}.lean. No idea stands in it: it is a product of the set-up. Laid BY PROGRAM, IN A SANDBOX (cutbox-door.mjs). By AI agents, Wed Nov 11 2026. No macro, syntax, notation, axiom, sorry.
-/
import Derived.Test.YtlfamfdgphhbcaaDoorRows
import Derived.LaidByTextLater
import Derived.SevenTiedAt
import Derived.LaidSub
import Derived.LaidOnce
namespace Go.Proofs.YtlfamfdgphhbcaaDoor
open Go
set_option maxRecDepth 100000
theorem seatTie1 : Tryd.prog.laidByTextLater [("math/bits.deBruijn32tab", Rows.laid_math_bits_deBruijn32tab), ("math/bits.deBruijn64tab", Rows.laid_math_bits_deBruijn64tab), ("internal/strconv.uint64pow10", Rows.laid_internal_strconv_uint64pow10), ("loop.example/g01353/impl.errInvalid", Rows.laid_loop_example_g01353_impl_errInvalid), ("loop.example/g01353/impl.errRange", Rows.laid_loop_example_g01353_impl_errRange), ("loop.example/g01353/impl.errLimit", Rows.laid_loop_example_g01353_impl_errLimit), ("loop.example/g01353/impl.errState", Rows.laid_loop_example_g01353_impl_errState), ("loop.example/g01353/impl.errSyntax", Rows.laid_loop_example_g01353_impl_errSyntax), ("loop.example/g01353/impl.errNotFound", Rows.laid_loop_example_g01353_impl_errNotFound), ("loop.example/g01353/impl.errProof", Rows.laid_loop_example_g01353_impl_errProof)] [.data, .data, .data, .sentinel, .sentinel, .sentinel, .sentinel, .sentinel, .sentinel, .sentinel] true :=
  Program.laidByTextLater_by_one 157 8 65 (by kernel_rfl) (by kernel_rfl) (by kernel_rfl) (by kernel_rfl) (by kernel_rfl) (by kernel_rfl) (fun _ _ => by kernel_rfl)
theorem noOwnUnsafe : Tryd.pinned.checked.prog.headLifts.contains "ownunsafe" = false := by kernel_rfl
theorem tie : Tryd.prog.laidByTextLater [("loop.example/g01353/impl.errInvalid", Rows.laid_loop_example_g01353_impl_errInvalid), ("loop.example/g01353/impl.errRange", Rows.laid_loop_example_g01353_impl_errRange), ("loop.example/g01353/impl.errLimit", Rows.laid_loop_example_g01353_impl_errLimit), ("loop.example/g01353/impl.errState", Rows.laid_loop_example_g01353_impl_errState), ("loop.example/g01353/impl.errSyntax", Rows.laid_loop_example_g01353_impl_errSyntax), ("loop.example/g01353/impl.errNotFound", Rows.laid_loop_example_g01353_impl_errNotFound), ("loop.example/g01353/impl.errProof", Rows.laid_loop_example_g01353_impl_errProof)] [.sentinel, .sentinel, .sentinel, .sentinel, .sentinel, .sentinel, .sentinel] true :=
  Program.laidByTextLater.sub seatTie1 ["loop.example/g01353/impl.errInvalid", "loop.example/g01353/impl.errRange", "loop.example/g01353/impl.errLimit", "loop.example/g01353/impl.errState", "loop.example/g01353/impl.errSyntax", "loop.example/g01353/impl.errNotFound", "loop.example/g01353/impl.errProof"] (by kernel_rfl) (by kernel_rfl)
theorem fnExactMeetingDay_row_tie : Rows.fnExactMeetingDayRow.laidByTextAt .later Tryd.pinned [.sentinel, .sentinel, .sentinel, .sentinel, .sentinel, .sentinel, .sentinel] true :=
  OpenClaim.laidByTextAt_later rfl rfl tie noOwnUnsafe
theorem fnExactSortCrate_row_tie : Rows.fnExactSortCrateRow.laidByTextAt .later Tryd.pinned [.sentinel, .sentinel, .sentinel, .sentinel, .sentinel, .sentinel, .sentinel] true :=
  OpenClaim.laidByTextAt_later rfl rfl tie noOwnUnsafe
theorem fnExactSortLane_row_tie : Rows.fnExactSortLaneRow.laidByTextAt .later Tryd.pinned [.sentinel, .sentinel, .sentinel, .sentinel, .sentinel, .sentinel, .sentinel] true :=
  OpenClaim.laidByTextAt_later rfl rfl tie noOwnUnsafe
theorem tie2 : Tryd.prog.laidByTextLater [("math/bits.deBruijn32tab", Rows.laid_math_bits_deBruijn32tab), ("math/bits.deBruijn64tab", Rows.laid_math_bits_deBruijn64tab), ("internal/strconv.uint64pow10", Rows.laid_internal_strconv_uint64pow10)] [.data, .data, .data] true :=
  Program.laidByTextLater.sub seatTie1 ["math/bits.deBruijn32tab", "math/bits.deBruijn64tab", "internal/strconv.uint64pow10"] (by kernel_rfl) (by kernel_rfl)
theorem fnExactCrateText_row_tie : Rows.fnExactCrateTextRow.laidByTextAt .later Tryd.pinned [.data, .data, .data] true :=
  OpenClaim.laidByTextAt_later rfl rfl tie2 noOwnUnsafe
theorem fnExactMeetingDayUpto_row_tie : Rows.fnExactMeetingDayUptoRow.laidByTextAt .later Tryd.pinned [.sentinel, .sentinel, .sentinel, .sentinel, .sentinel, .sentinel, .sentinel] true :=
  OpenClaim.laidByTextAt_later rfl rfl tie noOwnUnsafe
theorem fnExactSortCrateUpto_row_tie : Rows.fnExactSortCrateUptoRow.laidByTextAt .later Tryd.pinned [.sentinel, .sentinel, .sentinel, .sentinel, .sentinel, .sentinel, .sentinel] true :=
  OpenClaim.laidByTextAt_later rfl rfl tie noOwnUnsafe
theorem fnExactSortLaneUpto_row_tie : Rows.fnExactSortLaneUptoRow.laidByTextAt .later Tryd.pinned [.sentinel, .sentinel, .sentinel, .sentinel, .sentinel, .sentinel, .sentinel] true :=
  OpenClaim.laidByTextAt_later rfl rfl tie noOwnUnsafe
theorem fnExactCrateTextUpto_row_tie : Rows.fnExactCrateTextUptoRow.laidByTextAt .later Tryd.pinned [.data, .data, .data] true :=
  OpenClaim.laidByTextAt_later rfl rfl tie2 noOwnUnsafe
end Go.Proofs.YtlfamfdgphhbcaaDoor
