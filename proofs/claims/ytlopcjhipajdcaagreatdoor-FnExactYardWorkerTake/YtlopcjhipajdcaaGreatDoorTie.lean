/-
  DERIVED. GIVEN WITH THE SEED: THE PROGRAM's TIES (one call each: nine closed facts by the kernel) AND EACH ROW's TIE, after the 31st guide's Derived/Test/Toyas{Tie, Card}.lean. No idea stands in it: it is a product of the set-up. Laid BY PROGRAM, IN A SANDBOX (cutbox-door.mjs). By AI agents, Wed Nov 11 2026. No macro, syntax, notation, axiom, sorry.
-/
import Derived.Test.YtlopcjhipajdcaaGreatDoorRows
import Derived.LaidByTextLater
import Derived.SevenTiedAt
import Derived.LaidSub
import Derived.LaidOnce
namespace Go.Proofs.YtlopcjhipajdcaaGreatDoor
open Go
set_option maxRecDepth 100000
theorem seatTie1 : Tryz.prog.laidByTextLater [("loop.example/kilnyard/impl.errYardWord", Rows.laid_loop_example_kilnyard_impl_errYardWord), ("loop.example/kilnyard/impl.errYardBlank", Rows.laid_loop_example_kilnyard_impl_errYardBlank), ("loop.example/kilnyard/impl.errYardAnew", Rows.laid_loop_example_kilnyard_impl_errYardAnew), ("loop.example/kilnyard/impl.errYardEnds", Rows.laid_loop_example_kilnyard_impl_errYardEnds)] [.sentinel, .sentinel, .sentinel, .sentinel] true :=
  Program.laidByTextLater_by_one 157 8 65 (by kernel_rfl) (by kernel_rfl) (by kernel_rfl) (by kernel_rfl) (by kernel_rfl) (by kernel_rfl) (fun _ _ => by kernel_rfl)
theorem noOwnUnsafe : Tryz.pinned.checked.prog.headLifts.contains "ownunsafe" = false := by kernel_rfl
theorem tie : Tryz.prog.laidByTextLater [("loop.example/kilnyard/impl.errYardWord", Rows.laid_loop_example_kilnyard_impl_errYardWord), ("loop.example/kilnyard/impl.errYardBlank", Rows.laid_loop_example_kilnyard_impl_errYardBlank), ("loop.example/kilnyard/impl.errYardAnew", Rows.laid_loop_example_kilnyard_impl_errYardAnew), ("loop.example/kilnyard/impl.errYardEnds", Rows.laid_loop_example_kilnyard_impl_errYardEnds)] [.sentinel, .sentinel, .sentinel, .sentinel] true :=
  Program.laidByTextLater.sub seatTie1 ["loop.example/kilnyard/impl.errYardWord", "loop.example/kilnyard/impl.errYardBlank", "loop.example/kilnyard/impl.errYardAnew", "loop.example/kilnyard/impl.errYardEnds"] (by kernel_rfl) (by kernel_rfl)
theorem fnExactYardValidWorker_row_tie : Rows.fnExactYardValidWorkerRow.laidByTextAt .later Tryz.pinned [.sentinel, .sentinel, .sentinel, .sentinel] true :=
  OpenClaim.laidByTextAt_later rfl rfl tie noOwnUnsafe
theorem fnExactYardWorkerTake_row_tie : Rows.fnExactYardWorkerTakeRow.laidByTextAt .later Tryz.pinned [.sentinel, .sentinel, .sentinel, .sentinel] true :=
  OpenClaim.laidByTextAt_later rfl rfl tie noOwnUnsafe
theorem fnExactYardValidWorkerUpto_row_tie : Rows.fnExactYardValidWorkerUptoRow.laidByTextAt .later Tryz.pinned [.sentinel, .sentinel, .sentinel, .sentinel] true :=
  OpenClaim.laidByTextAt_later rfl rfl tie noOwnUnsafe
theorem fnExactYardWorkerTakeUpto_row_tie : Rows.fnExactYardWorkerTakeUptoRow.laidByTextAt .later Tryz.pinned [.sentinel, .sentinel, .sentinel, .sentinel] true :=
  OpenClaim.laidByTextAt_later rfl rfl tie noOwnUnsafe
end Go.Proofs.YtlopcjhipajdcaaGreatDoor
