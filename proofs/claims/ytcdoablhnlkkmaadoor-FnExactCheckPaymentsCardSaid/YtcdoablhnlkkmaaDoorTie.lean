/-
  DERIVED. GIVEN WITH THE SEED: THE PROGRAM's TIES (one call each: nine closed facts by the kernel) AND EACH ROW's TIE, after the 31st guide's Derived/Test/Toyas{Tie, Card}.lean. No idea stands in it: it is a product of the set-up. Laid BY PROGRAM, IN A SANDBOX (cutbox-door.mjs). By AI agents, Wed Nov 11 2026. No macro, syntax, notation, axiom, sorry.
-/
import Derived.Test.YtcdoablhnlkkmaaDoorRows
import Derived.LaidByTextLater
import Derived.SevenTiedAt
import Derived.LaidSub
import Derived.LaidOnce
namespace Go.Proofs.YtcdoablhnlkkmaaDoor
open Go
set_option maxRecDepth 100000
theorem seatTie1 : Tryd.prog.laidByTextLater [("errors.errorType", Rows.laid_errors_errorType), ("loop.example/g01353/impl.errInvalid", Rows.laid_loop_example_g01353_impl_errInvalid), ("loop.example/g01353/impl.errRange", Rows.laid_loop_example_g01353_impl_errRange), ("loop.example/g01353/impl.errLimit", Rows.laid_loop_example_g01353_impl_errLimit), ("loop.example/g01353/impl.errState", Rows.laid_loop_example_g01353_impl_errState), ("loop.example/g01353/impl.errSyntax", Rows.laid_loop_example_g01353_impl_errSyntax), ("loop.example/g01353/impl.errNotFound", Rows.laid_loop_example_g01353_impl_errNotFound), ("loop.example/g01353/impl.errProof", Rows.laid_loop_example_g01353_impl_errProof)] [.handle, .sentinel, .sentinel, .sentinel, .sentinel, .sentinel, .sentinel, .sentinel] true :=
  Program.laidByTextLater_by_one 149 8 2 (by kernel_rfl) (by kernel_rfl) (by kernel_rfl) (by kernel_rfl) (by kernel_rfl) (by kernel_rfl) (fun _ _ => by kernel_rfl)
theorem noOwnUnsafe : Tryd.pinned.checked.prog.headLifts.contains "ownunsafe" = false := by kernel_rfl
theorem tie : Tryd.prog.laidByTextLater [("loop.example/g01353/impl.errInvalid", Rows.laid_loop_example_g01353_impl_errInvalid), ("loop.example/g01353/impl.errRange", Rows.laid_loop_example_g01353_impl_errRange), ("loop.example/g01353/impl.errLimit", Rows.laid_loop_example_g01353_impl_errLimit), ("loop.example/g01353/impl.errState", Rows.laid_loop_example_g01353_impl_errState), ("loop.example/g01353/impl.errSyntax", Rows.laid_loop_example_g01353_impl_errSyntax), ("loop.example/g01353/impl.errNotFound", Rows.laid_loop_example_g01353_impl_errNotFound), ("loop.example/g01353/impl.errProof", Rows.laid_loop_example_g01353_impl_errProof)] [.sentinel, .sentinel, .sentinel, .sentinel, .sentinel, .sentinel, .sentinel] true :=
  Program.laidByTextLater.sub seatTie1 ["loop.example/g01353/impl.errInvalid", "loop.example/g01353/impl.errRange", "loop.example/g01353/impl.errLimit", "loop.example/g01353/impl.errState", "loop.example/g01353/impl.errSyntax", "loop.example/g01353/impl.errNotFound", "loop.example/g01353/impl.errProof"] (by kernel_rfl) (by kernel_rfl)
theorem fnExactCheckPayments_row_tie : Rows.fnExactCheckPaymentsRow.laidByTextAt .later Tryd.pinned [.sentinel, .sentinel, .sentinel, .sentinel, .sentinel, .sentinel, .sentinel] true :=
  OpenClaim.laidByTextAt_later rfl rfl tie noOwnUnsafe
theorem fnExactApplyEntry_row_tie : Rows.fnExactApplyEntryRow.laidByTextAt .later Tryd.pinned [.sentinel, .sentinel, .sentinel, .sentinel, .sentinel, .sentinel, .sentinel] true :=
  OpenClaim.laidByTextAt_later rfl rfl tie noOwnUnsafe
theorem fnExactReplayLedger_row_tie : Rows.fnExactReplayLedgerRow.laidByTextAt .later Tryd.pinned [.sentinel, .sentinel, .sentinel, .sentinel, .sentinel, .sentinel, .sentinel] true :=
  OpenClaim.laidByTextAt_later rfl rfl tie noOwnUnsafe
theorem tie2 : Tryd.prog.laidByTextLater [("errors.errorType", Rows.laid_errors_errorType), ("loop.example/g01353/impl.errInvalid", Rows.laid_loop_example_g01353_impl_errInvalid), ("loop.example/g01353/impl.errRange", Rows.laid_loop_example_g01353_impl_errRange), ("loop.example/g01353/impl.errLimit", Rows.laid_loop_example_g01353_impl_errLimit), ("loop.example/g01353/impl.errState", Rows.laid_loop_example_g01353_impl_errState), ("loop.example/g01353/impl.errSyntax", Rows.laid_loop_example_g01353_impl_errSyntax), ("loop.example/g01353/impl.errNotFound", Rows.laid_loop_example_g01353_impl_errNotFound), ("loop.example/g01353/impl.errProof", Rows.laid_loop_example_g01353_impl_errProof)] [.handle, .sentinel, .sentinel, .sentinel, .sentinel, .sentinel, .sentinel, .sentinel] true :=
  Program.laidByTextLater.sub seatTie1 ["errors.errorType", "loop.example/g01353/impl.errInvalid", "loop.example/g01353/impl.errRange", "loop.example/g01353/impl.errLimit", "loop.example/g01353/impl.errState", "loop.example/g01353/impl.errSyntax", "loop.example/g01353/impl.errNotFound", "loop.example/g01353/impl.errProof"] (by kernel_rfl) (by kernel_rfl)
theorem fnExactFirstWrong_row_tie : Rows.fnExactFirstWrongRow.laidByTextAt .later Tryd.pinned [.handle, .sentinel, .sentinel, .sentinel, .sentinel, .sentinel, .sentinel, .sentinel] true :=
  OpenClaim.laidByTextAt_later rfl rfl tie2 noOwnUnsafe
theorem fnExactCheckPaymentsUpto_row_tie : Rows.fnExactCheckPaymentsUptoRow.laidByTextAt .later Tryd.pinned [.sentinel, .sentinel, .sentinel, .sentinel, .sentinel, .sentinel, .sentinel] true :=
  OpenClaim.laidByTextAt_later rfl rfl tie noOwnUnsafe
theorem fnExactApplyEntryUpto_row_tie : Rows.fnExactApplyEntryUptoRow.laidByTextAt .later Tryd.pinned [.sentinel, .sentinel, .sentinel, .sentinel, .sentinel, .sentinel, .sentinel] true :=
  OpenClaim.laidByTextAt_later rfl rfl tie noOwnUnsafe
theorem fnExactReplayLedgerUpto_row_tie : Rows.fnExactReplayLedgerUptoRow.laidByTextAt .later Tryd.pinned [.sentinel, .sentinel, .sentinel, .sentinel, .sentinel, .sentinel, .sentinel] true :=
  OpenClaim.laidByTextAt_later rfl rfl tie noOwnUnsafe
theorem fnExactFirstWrongUpto_row_tie : Rows.fnExactFirstWrongUptoRow.laidByTextAt .later Tryd.pinned [.handle, .sentinel, .sentinel, .sentinel, .sentinel, .sentinel, .sentinel, .sentinel] true :=
  OpenClaim.laidByTextAt_later rfl rfl tie2 noOwnUnsafe
end Go.Proofs.YtcdoablhnlkkmaaDoor
