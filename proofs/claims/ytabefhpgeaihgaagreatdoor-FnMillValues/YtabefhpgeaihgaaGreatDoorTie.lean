/-
  DERIVED. GIVEN WITH THE SEED: THE PROGRAM's TIES (one call each: nine closed facts by the kernel) AND EACH ROW's TIE, after the 31st guide's Derived/Test/Toyas{Tie, Card}.lean. No idea stands in it: it is a product of the set-up. Laid BY PROGRAM, IN A SANDBOX (cutbox-door.mjs). By AI agents, Wed Nov 11 2026. No macro, syntax, notation, axiom, sorry.
-/
import Derived.Test.YtabefhpgeaihgaaGreatDoorRows
import Derived.LaidByTextLater
import Derived.SevenTiedAt
import Derived.LaidSub
import Derived.LaidOnce
namespace Go.Proofs.YtabefhpgeaihgaaGreatDoor
open Go
set_option maxRecDepth 100000
theorem seatTie1 : Tryz.prog.laidByTextLater [("math/bits.deBruijn32tab", Rows.laid_math_bits_deBruijn32tab), ("math/bits.deBruijn64tab", Rows.laid_math_bits_deBruijn64tab), ("internal/strconv.uint64pow10", Rows.laid_internal_strconv_uint64pow10), ("strconv.ErrRange", Rows.laid_strconv_ErrRange), ("strconv.ErrSyntax", Rows.laid_strconv_ErrSyntax), ("loop.example/kilnyard/impl.millBuiltSigns", Rows.laid_loop_example_kilnyard_impl_millBuiltSigns), ("loop.example/kilnyard/impl.errMillType", Rows.laid_loop_example_kilnyard_impl_errMillType), ("loop.example/kilnyard/impl.errMillDivide", Rows.laid_loop_example_kilnyard_impl_errMillDivide), ("loop.example/kilnyard/impl.errMillLong", Rows.laid_loop_example_kilnyard_impl_errMillLong), ("loop.example/kilnyard/impl.errMillRange", Rows.laid_loop_example_kilnyard_impl_errMillRange), ("loop.example/kilnyard/impl.errMillNumber", Rows.laid_loop_example_kilnyard_impl_errMillNumber)] [.data, .data, .data, .sentinel, .sentinel, .widerDeep, .sentinel, .sentinel, .sentinel, .sentinel, .sentinel] true :=
  Program.laidByTextLater_by_one 196 8 65 (by kernel_rfl) (by kernel_rfl) (by kernel_rfl) (by kernel_rfl) (by kernel_rfl) (by kernel_rfl) (fun _ _ => by kernel_rfl)
theorem noOwnUnsafe : Tryz.pinned.checked.prog.headLifts.contains "ownunsafe" = false := by kernel_rfl
theorem tie : Tryz.prog.laidByTextLater [("math/bits.deBruijn32tab", Rows.laid_math_bits_deBruijn32tab), ("math/bits.deBruijn64tab", Rows.laid_math_bits_deBruijn64tab), ("internal/strconv.uint64pow10", Rows.laid_internal_strconv_uint64pow10), ("strconv.ErrRange", Rows.laid_strconv_ErrRange), ("strconv.ErrSyntax", Rows.laid_strconv_ErrSyntax), ("loop.example/kilnyard/impl.millBuiltSigns", Rows.laid_loop_example_kilnyard_impl_millBuiltSigns), ("loop.example/kilnyard/impl.errMillType", Rows.laid_loop_example_kilnyard_impl_errMillType), ("loop.example/kilnyard/impl.errMillDivide", Rows.laid_loop_example_kilnyard_impl_errMillDivide), ("loop.example/kilnyard/impl.errMillLong", Rows.laid_loop_example_kilnyard_impl_errMillLong), ("loop.example/kilnyard/impl.errMillRange", Rows.laid_loop_example_kilnyard_impl_errMillRange), ("loop.example/kilnyard/impl.errMillNumber", Rows.laid_loop_example_kilnyard_impl_errMillNumber)] [.data, .data, .data, .sentinel, .sentinel, .widerDeep, .sentinel, .sentinel, .sentinel, .sentinel, .sentinel] true :=
  Program.laidByTextLater.sub seatTie1 ["math/bits.deBruijn32tab", "math/bits.deBruijn64tab", "internal/strconv.uint64pow10", "strconv.ErrRange", "strconv.ErrSyntax", "loop.example/kilnyard/impl.millBuiltSigns", "loop.example/kilnyard/impl.errMillType", "loop.example/kilnyard/impl.errMillDivide", "loop.example/kilnyard/impl.errMillLong", "loop.example/kilnyard/impl.errMillRange", "loop.example/kilnyard/impl.errMillNumber"] (by kernel_rfl) (by kernel_rfl)
theorem fnMillValues_row_tie : Rows.fnMillValuesRow.laidByTextAt .later Tryz.pinned [.data, .data, .data, .sentinel, .sentinel, .widerDeep, .sentinel, .sentinel, .sentinel, .sentinel, .sentinel] true :=
  OpenClaim.laidByTextAt_later rfl rfl tie noOwnUnsafe
theorem fnMillValuesUpto_row_tie : Rows.fnMillValuesUptoRow.laidByTextAt .later Tryz.pinned [.data, .data, .data, .sentinel, .sentinel, .widerDeep, .sentinel, .sentinel, .sentinel, .sentinel, .sentinel] true :=
  OpenClaim.laidByTextAt_later rfl rfl tie noOwnUnsafe
end Go.Proofs.YtabefhpgeaihgaaGreatDoor
