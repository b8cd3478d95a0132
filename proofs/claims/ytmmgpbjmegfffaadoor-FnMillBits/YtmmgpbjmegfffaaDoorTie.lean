/-
  DERIVED. GIVEN WITH THE SEED: THE PROGRAM's TIES (one call each: nine closed facts by the kernel) AND EACH ROW's TIE, after the 31st guide's Derived/Test/Toyas{Tie, Card}.lean. No idea stands in it: it is a product of the set-up. Laid BY PROGRAM, IN A SANDBOX (cutbox-door.mjs). By AI agents, Wed Nov 11 2026. No macro, syntax, notation, axiom, sorry.
-/
import Derived.Test.YtmmgpbjmegfffaaDoorRows
import Derived.LaidByTextLater
import Derived.SevenTiedAt
import Derived.LaidSub
import Derived.LaidOnce
namespace Go.Proofs.YtmmgpbjmegfffaaDoor
open Go
set_option maxRecDepth 100000
theorem seatTie1 : Tryd.prog.laidByTextLater [("loop.example/kilnyard/impl.errMillType", Rows.laid_loop_example_kilnyard_impl_errMillType), ("loop.example/kilnyard/impl.errMillDivide", Rows.laid_loop_example_kilnyard_impl_errMillDivide), ("loop.example/kilnyard/impl.errMillLong", Rows.laid_loop_example_kilnyard_impl_errMillLong)] [.sentinel, .sentinel, .sentinel] true :=
  Program.laidByTextLater_by_one 66 8 2 (by kernel_rfl) (by kernel_rfl) (by kernel_rfl) (by kernel_rfl) (by kernel_rfl) (by kernel_rfl) (fun _ _ => by kernel_rfl)
theorem noOwnUnsafe : Tryd.pinned.checked.prog.headLifts.contains "ownunsafe" = false := by kernel_rfl
theorem tie : Tryd.prog.laidByTextLater [("loop.example/kilnyard/impl.errMillType", Rows.laid_loop_example_kilnyard_impl_errMillType), ("loop.example/kilnyard/impl.errMillDivide", Rows.laid_loop_example_kilnyard_impl_errMillDivide), ("loop.example/kilnyard/impl.errMillLong", Rows.laid_loop_example_kilnyard_impl_errMillLong)] [.sentinel, .sentinel, .sentinel] true :=
  Program.laidByTextLater.sub seatTie1 ["loop.example/kilnyard/impl.errMillType", "loop.example/kilnyard/impl.errMillDivide", "loop.example/kilnyard/impl.errMillLong"] (by kernel_rfl) (by kernel_rfl)
theorem fnExactMillBinary_row_tie : Rows.fnExactMillBinaryRow.laidByTextAt .later Tryd.pinned [.sentinel, .sentinel, .sentinel] true :=
  OpenClaim.laidByTextAt_later rfl rfl tie noOwnUnsafe
theorem fnMillBits_row_tie : Rows.fnMillBitsRow.laidByTextAt .later Tryd.pinned [.sentinel, .sentinel, .sentinel] true :=
  OpenClaim.laidByTextAt_later rfl rfl tie noOwnUnsafe
theorem fnExactMillBinaryUpto_row_tie : Rows.fnExactMillBinaryUptoRow.laidByTextAt .later Tryd.pinned [.sentinel, .sentinel, .sentinel] true :=
  OpenClaim.laidByTextAt_later rfl rfl tie noOwnUnsafe
theorem fnMillBitsUpto_row_tie : Rows.fnMillBitsUptoRow.laidByTextAt .later Tryd.pinned [.sentinel, .sentinel, .sentinel] true :=
  OpenClaim.laidByTextAt_later rfl rfl tie noOwnUnsafe
end Go.Proofs.YtmmgpbjmegfffaaDoor
