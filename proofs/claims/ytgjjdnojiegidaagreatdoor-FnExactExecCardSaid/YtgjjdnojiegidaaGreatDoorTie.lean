/-
  DERIVED. GIVEN WITH THE SEED: THE PROGRAM's TIES (one call each: nine closed facts by the kernel) AND EACH ROW's TIE, after the 31st guide's Derived/Test/Toyas{Tie, Card}.lean. No idea stands in it: it is a product of the set-up. Laid BY PROGRAM, IN A SANDBOX (cutbox-door.mjs). By AI agents, Wed Nov 11 2026. No macro, syntax, notation, axiom, sorry.
-/
import Derived.Test.YtgjjdnojiegidaaGreatDoorRows
import Derived.LaidByTextLater
import Derived.SevenTiedAt
import Derived.LaidSub
import Derived.LaidOnce
namespace Go.Proofs.YtgjjdnojiegidaaGreatDoor
open Go
set_option maxRecDepth 100000
theorem seatTie1 : Tryz.prog.laidByTextLater [("errors.errorType", Rows.laid_errors_errorType), ("loop.example/g00609/impl.errForm", Rows.laid_loop_example_g00609_impl_errForm), ("loop.example/g00609/impl.errBlocked", Rows.laid_loop_example_g00609_impl_errBlocked), ("loop.example/g00609/impl.errTwice", Rows.laid_loop_example_g00609_impl_errTwice), ("loop.example/g00609/impl.errNone", Rows.laid_loop_example_g00609_impl_errNone), ("loop.example/g00609/impl.errCross", Rows.laid_loop_example_g00609_impl_errCross), ("loop.example/g00609/impl.errFill", Rows.laid_loop_example_g00609_impl_errFill), ("loop.example/g00609/impl.errRoom", Rows.laid_loop_example_g00609_impl_errRoom)] [.handle, .sentinel, .sentinel, .sentinel, .sentinel, .sentinel, .sentinel, .sentinel] true :=
  Program.laidByTextLater_by_one 149 8 2 (by kernel_rfl) (by kernel_rfl) (by kernel_rfl) (by kernel_rfl) (by kernel_rfl) (by kernel_rfl) (fun _ _ => by kernel_rfl)
theorem noOwnUnsafe : Tryz.pinned.checked.prog.headLifts.contains "ownunsafe" = false := by kernel_rfl
theorem tie : Tryz.prog.laidByTextLater [("errors.errorType", Rows.laid_errors_errorType), ("loop.example/g00609/impl.errForm", Rows.laid_loop_example_g00609_impl_errForm), ("loop.example/g00609/impl.errBlocked", Rows.laid_loop_example_g00609_impl_errBlocked), ("loop.example/g00609/impl.errTwice", Rows.laid_loop_example_g00609_impl_errTwice), ("loop.example/g00609/impl.errNone", Rows.laid_loop_example_g00609_impl_errNone), ("loop.example/g00609/impl.errCross", Rows.laid_loop_example_g00609_impl_errCross), ("loop.example/g00609/impl.errFill", Rows.laid_loop_example_g00609_impl_errFill), ("loop.example/g00609/impl.errRoom", Rows.laid_loop_example_g00609_impl_errRoom)] [.handle, .sentinel, .sentinel, .sentinel, .sentinel, .sentinel, .sentinel, .sentinel] true :=
  Program.laidByTextLater.sub seatTie1 ["errors.errorType", "loop.example/g00609/impl.errForm", "loop.example/g00609/impl.errBlocked", "loop.example/g00609/impl.errTwice", "loop.example/g00609/impl.errNone", "loop.example/g00609/impl.errCross", "loop.example/g00609/impl.errFill", "loop.example/g00609/impl.errRoom"] (by kernel_rfl) (by kernel_rfl)
theorem fnExactExec_row_tie : Rows.fnExactExecRow.laidByTextAt .later Tryz.pinned [.handle, .sentinel, .sentinel, .sentinel, .sentinel, .sentinel, .sentinel, .sentinel] true :=
  OpenClaim.laidByTextAt_later rfl rfl tie noOwnUnsafe
theorem fnExactExecUpto_row_tie : Rows.fnExactExecUptoRow.laidByTextAt .later Tryz.pinned [.handle, .sentinel, .sentinel, .sentinel, .sentinel, .sentinel, .sentinel, .sentinel] true :=
  OpenClaim.laidByTextAt_later rfl rfl tie noOwnUnsafe
end Go.Proofs.YtgjjdnojiegidaaGreatDoor
