/-
  DERIVED. GIVEN WITH THE SEED: THE PROGRAM's TIES (one call each: nine closed facts by the kernel) AND EACH ROW's TIE, after the 31st guide's Derived/Test/Toyas{Tie, Card}.lean. No idea stands in it: it is a product of the set-up. Laid BY PROGRAM, IN A SANDBOX (cutbox-door.mjs). By AI agents, Wed Nov 11 2026. No macro, syntax, notation, axiom, sorry.
-/
import Derived.Test.YtcjgcipacfcjnaaGreatDoorRows
import Derived.LaidByTextLater
import Derived.SevenTiedAt
import Derived.LaidSub
import Derived.LaidOnce
namespace Go.Proofs.YtcjgcipacfcjnaaGreatDoor
open Go
set_option maxRecDepth 100000
theorem seatTie1 : Tryz.prog.laidByTextLater [("errors.errorType", Rows.laid_errors_errorType), ("loop.example/kilnyard/impl.millBuiltSigns", Rows.laid_loop_example_kilnyard_impl_millBuiltSigns), ("loop.example/kilnyard/impl.errMillFormBegins", Rows.laid_loop_example_kilnyard_impl_errMillFormBegins), ("loop.example/kilnyard/impl.errMillFormEnds", Rows.laid_loop_example_kilnyard_impl_errMillFormEnds), ("loop.example/kilnyard/impl.errMillFormLong", Rows.laid_loop_example_kilnyard_impl_errMillFormLong), ("loop.example/kilnyard/impl.errMillFormNumber", Rows.laid_loop_example_kilnyard_impl_errMillFormNumber), ("loop.example/kilnyard/impl.millInsRows", Rows.laid_loop_example_kilnyard_impl_millInsRows)] [.handle, .widerDeep, .sentinel, .sentinel, .sentinel, .sentinel, .data] true :=
  Program.laidByTextLater_by_one 151 8 52 (by kernel_rfl) (by kernel_rfl) (by kernel_rfl) (by kernel_rfl) (by kernel_rfl) (by kernel_rfl) (fun _ _ => by kernel_rfl)
theorem noOwnUnsafe : Tryz.pinned.checked.prog.headLifts.contains "ownunsafe" = false := by kernel_rfl
theorem tie : Tryz.prog.laidByTextLater [("loop.example/kilnyard/impl.millBuiltSigns", Rows.laid_loop_example_kilnyard_impl_millBuiltSigns), ("loop.example/kilnyard/impl.millInsRows", Rows.laid_loop_example_kilnyard_impl_millInsRows)] [.widerDeep, .data] true :=
  Program.laidByTextLater.sub seatTie1 ["loop.example/kilnyard/impl.millBuiltSigns", "loop.example/kilnyard/impl.millInsRows"] (by kernel_rfl) (by kernel_rfl)
theorem fnExactMillWriteCode_row_tie : Rows.fnExactMillWriteCodeRow.laidByTextAt .later Tryz.pinned [.widerDeep, .data] true :=
  OpenClaim.laidByTextAt_later rfl rfl tie noOwnUnsafe
theorem tie2 : Tryz.prog.laidByTextLater [("errors.errorType", Rows.laid_errors_errorType), ("loop.example/kilnyard/impl.millBuiltSigns", Rows.laid_loop_example_kilnyard_impl_millBuiltSigns), ("loop.example/kilnyard/impl.errMillFormBegins", Rows.laid_loop_example_kilnyard_impl_errMillFormBegins), ("loop.example/kilnyard/impl.errMillFormEnds", Rows.laid_loop_example_kilnyard_impl_errMillFormEnds), ("loop.example/kilnyard/impl.errMillFormLong", Rows.laid_loop_example_kilnyard_impl_errMillFormLong), ("loop.example/kilnyard/impl.errMillFormNumber", Rows.laid_loop_example_kilnyard_impl_errMillFormNumber), ("loop.example/kilnyard/impl.millInsRows", Rows.laid_loop_example_kilnyard_impl_millInsRows)] [.handle, .widerDeep, .sentinel, .sentinel, .sentinel, .sentinel, .data] true :=
  Program.laidByTextLater.sub seatTie1 ["errors.errorType", "loop.example/kilnyard/impl.millBuiltSigns", "loop.example/kilnyard/impl.errMillFormBegins", "loop.example/kilnyard/impl.errMillFormEnds", "loop.example/kilnyard/impl.errMillFormLong", "loop.example/kilnyard/impl.errMillFormNumber", "loop.example/kilnyard/impl.millInsRows"] (by kernel_rfl) (by kernel_rfl)
theorem fnExactMillReadCode_row_tie : Rows.fnExactMillReadCodeRow.laidByTextAt .later Tryz.pinned [.handle, .widerDeep, .sentinel, .sentinel, .sentinel, .sentinel, .data] true :=
  OpenClaim.laidByTextAt_later rfl rfl tie2 noOwnUnsafe
theorem fnExactMillWriteCodeUpto_row_tie : Rows.fnExactMillWriteCodeUptoRow.laidByTextAt .later Tryz.pinned [.widerDeep, .data] true :=
  OpenClaim.laidByTextAt_later rfl rfl tie noOwnUnsafe
theorem fnExactMillReadCodeUpto_row_tie : Rows.fnExactMillReadCodeUptoRow.laidByTextAt .later Tryz.pinned [.handle, .widerDeep, .sentinel, .sentinel, .sentinel, .sentinel, .data] true :=
  OpenClaim.laidByTextAt_later rfl rfl tie2 noOwnUnsafe
end Go.Proofs.YtcjgcipacfcjnaaGreatDoor
