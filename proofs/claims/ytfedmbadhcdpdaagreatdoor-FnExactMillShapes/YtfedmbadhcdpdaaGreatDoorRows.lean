/-
  NARROWER THAN 'FOR EVERY INPUT', by the rows' own cells (each row's printed sentence says how): FnExactMillCheckCode: laid · FnExactMillShapes: laid.
  DERIVED. THE GIVEN ROWS OF THIS SEAT. 2 by the template 'for every input the law returns true; each argument reads behind the call as it read before'; 0 by the template 'total and deterministic' (their statements: YtfedmbadhcdpdaaGreatDoorTotals.lean).
  GIVEN WITH THE SEED: the statements are not yours to turn. If you find one false, say at which input.
  Laid BY PROGRAM, IN A SANDBOX (cutbox-rows.mjs): the forced cells as the released guide's own fill.sh prints them over the translation e52732868ba3e16c… (all of the seat's roots in one cut). By AI agents, Wed Nov 11 2026. No macro, syntax, notation, axiom, sorry.
-/
import Derived.Test.YtfedmbadhcdpdaaGreatDoorChecked
import GoSem.Claim
import GoSem.ClaimJoined
import GoSem.ClaimMapViews
import Derived.JoinedTies
import Derived.KernelRfl
namespace Go.Proofs.YtfedmbadhcdpdaaGreatDoor
/- THE CELL 'sum', in the pinned program and in every row, IS THE sha256 OF THE DUMP (.gsa) THAT YtfedmbadhcdpdaaGreatDoorProg.lean LOADS. Nothing in Lean hashes anything: it is a label: what it is worth is what the hold of that sum in a sandbox is worth. -/
noncomputable def Tryz.pinned : Pinned := { name := "ytfedmbadhcdpdaagreatdoor", sum := "e52732868ba3e16c80a1e666b00746af1b6bc5fd3d3a1b7605155f1c735f884c", checked := Tryz.checked }
namespace Rows
def none {H : Type} : Left H := { results := [], args := [] }

/- WHAT THE LISTED PACKAGE-LEVEL VARIABLES READ AS WHEN THE CALL BEGINS. Each datum BY PROGRAM (the guide's laid-datum.mjs) off the statement by which the dump's own 'gosem.cut.vars' lays the variable. In a bare row this is a premise. The card (YtfedmbadhcdpdaaGreatDoorCards.lean) ties it to the program's text. -/
def laid_errors_errorType {H : Type} : DataW H := .iface "internal/reflectlite.rtype" (.agg [.ptr (.lit (.string [101, 114, 114, 111, 114]))])
def laid_loop_example_kilnyard_impl_millBuiltSigns {H : Type} : DataW H := .agg [.agg [.nil, .lit (.int .i64 0)], .agg [.slice [.lit (.int .i64 2)] [], .lit (.int .i64 2)], .agg [.slice [.lit (.int .i64 2)] [], .lit (.int .i64 1)], .agg [.slice [.lit (.int .i64 2)] [], .lit (.int .i64 2)], .agg [.slice [.lit (.int .i64 2), .lit (.int .i64 2)] [], .lit (.int .i64 2)], .agg [.nil, .lit (.int .i64 2)], .agg [.slice [.lit (.int .i64 2)] [], .lit (.int .i64 10)], .agg [.slice [.lit (.int .i64 2), .lit (.int .i64 10)] [], .lit (.int .i64 3)], .agg [.slice [.lit (.int .i64 2), .lit (.int .i64 10), .lit (.int .i64 10)] [], .lit (.int .i64 2)], .agg [.slice [.lit (.int .i64 2), .lit (.int .i64 2)] [], .lit (.int .i64 10)], .agg [.slice [.lit (.int .i64 3)] [], .lit (.int .i64 2)], .agg [.slice [.lit (.int .i64 (-1))] [], .lit (.int .i64 2)], .agg [.slice [.lit (.int .i64 2)] [], .lit (.int .i64 10)]]
def laid_loop_example_kilnyard_impl_millInsRows {H : Type} : DataW H := .agg [.agg [.lit (.int .i64 0), .nil, .lit (.int .i64 0)], .agg [.lit (.int .i64 1), .nil, .lit (.int .i64 1)], .agg [.lit (.int .i64 2), .nil, .lit (.int .i64 2)], .agg [.lit (.int .i64 2), .slice [.lit (.int .i64 (-2))] [], .lit (.int .i64 0)], .agg [.lit (.int .i64 0), .slice [.lit (.int .i64 (-2))] [], .lit (.int .i64 0)], .agg [.lit (.int .i64 3), .slice [.lit (.int .i64 (-2))] [], .lit (.int .i64 3)], .agg [.lit (.int .i64 4), .slice [.lit (.int .i64 (-2)), .lit (.int .i64 (-2))] [], .lit (.int .i64 4)], .agg [.lit (.int .i64 5), .slice [.lit (.int .i64 (-1))] [], .lit (.int .i64 1)], .agg [.lit (.int .i64 6), .nil, .lit (.int .i64 5)], .agg [.lit (.int .i64 7), .nil, .lit (.int .i64 6)], .agg [.lit (.int .i64 8), .nil, .lit (.int .i64 0)], .agg [.lit (.int .i64 8), .slice [.lit (.int .i64 1)] [], .lit (.int .i64 0)], .agg [.lit (.int .i64 9), .nil, .lit (.int .i64 0)], .agg [.lit (.int .i64 0), .slice [.lit (.int .i64 2)] [], .lit (.int .i64 0)], .agg [.lit (.int .i64 0), .slice [.lit (.int .i64 2), .lit (.int .i64 2)] [], .lit (.int .i64 0)], .agg [.lit (.int .i64 0), .slice [.lit (.int .i64 2)] [], .lit (.int .i64 0)], .agg [.lit (.int .i64 0), .nil, .lit (.int .i64 0)]]

/-- 'laws.FnExactMillCheckCode': WHATEVER THE INPUT: true; the input reads as it did. -/
def fnExactMillCheckCodeSpec : ChangeSpec := { name := "fnExactMillCheckCode", vars := ["loop.example/kilnyard/impl.millInsRows", "loop.example/kilnyard/impl.millBuiltSigns"], fn := fun _ => fun
  | [d, g1, g2] => { results := [.lit (.bool true)], args := [d], vars := [g1, g2] }
  | _ => none }
def fnExactMillCheckCodeRow : OpenClaim := { program := "ytfedmbadhcdpdaagreatdoor", sum := "e52732868ba3e16c80a1e666b00746af1b6bc5fd3d3a1b7605155f1c735f884c", func := "loop.example/kilnyard/laws.FnExactMillCheckCode", spec := "fnExactMillCheckCode", inPlace := ["slices.overlaps[int]", "internal/reflectlite.ValueOf", "(internal/reflectlite.Value).Type", "(internal/reflectlite.Value).IsNil", "internal/reflectlite.TypeOf", "(internal/reflectlite.Value).Elem", "(internal/reflectlite.Value).Set"], unfollowed := true, recurses := true, named := ["loop.example/kilnyard/impl.millInsRows", "loop.example/kilnyard/impl.millBuiltSigns", "errors.errorType"], apart := false, laid := [("errors.errorType", laid_errors_errorType), ("loop.example/kilnyard/impl.millBuiltSigns", laid_loop_example_kilnyard_impl_millBuiltSigns), ("loop.example/kilnyard/impl.millInsRows", laid_loop_example_kilnyard_impl_millInsRows)] }
def FnExactMillCheckCodeSaid : Prop := fnExactMillCheckCodeRow.holds Tryz.pinned (OpenSpec.ofChange fnExactMillCheckCodeSpec)

/-- ITS FALSE NEIGHBOUR: 'it returns false'. Refute it at one input. -/
def fnExactMillCheckCodeWrong : ChangeSpec := { name := "fnExactMillCheckCode", vars := ["loop.example/kilnyard/impl.millInsRows", "loop.example/kilnyard/impl.millBuiltSigns"], fn := fun _ => fun
  | [d, g1, g2] => { results := [.lit (.bool false)], args := [d], vars := [g1, g2] }
  | _ => none }
def FnExactMillCheckCodeWrongFalsely : Prop := fnExactMillCheckCodeRow.holds Tryz.pinned (OpenSpec.ofChange fnExactMillCheckCodeWrong)

/-- 'laws.FnExactMillShapes': WHATEVER THE INPUT: true; the input reads as it did. -/
def fnExactMillShapesSpec : ChangeSpec := { name := "fnExactMillShapes", vars := ["loop.example/kilnyard/impl.millInsRows", "loop.example/kilnyard/impl.millBuiltSigns"], fn := fun _ => fun
  | [d1, d2, g1, g2] => { results := [.lit (.bool true)], args := [d1, d2], vars := [g1, g2] }
  | _ => none }
def fnExactMillShapesRow : OpenClaim := { program := "ytfedmbadhcdpdaagreatdoor", sum := "e52732868ba3e16c80a1e666b00746af1b6bc5fd3d3a1b7605155f1c735f884c", func := "loop.example/kilnyard/laws.FnExactMillShapes", spec := "fnExactMillShapes", inPlace := ["slices.overlaps[int]"], unfollowed := true, recurses := true, named := ["loop.example/kilnyard/impl.millInsRows", "loop.example/kilnyard/impl.millBuiltSigns"], apart := false, laid := [("loop.example/kilnyard/impl.millBuiltSigns", laid_loop_example_kilnyard_impl_millBuiltSigns), ("loop.example/kilnyard/impl.millInsRows", laid_loop_example_kilnyard_impl_millInsRows)] }
def FnExactMillShapesSaid : Prop := fnExactMillShapesRow.holds Tryz.pinned (OpenSpec.ofChange fnExactMillShapesSpec)

/-- ITS FALSE NEIGHBOUR: 'it returns false'. Refute it at one input. -/
def fnExactMillShapesWrong : ChangeSpec := { name := "fnExactMillShapes", vars := ["loop.example/kilnyard/impl.millInsRows", "loop.example/kilnyard/impl.millBuiltSigns"], fn := fun _ => fun
  | [d1, d2, g1, g2] => { results := [.lit (.bool false)], args := [d1, d2], vars := [g1, g2] }
  | _ => none }
def FnExactMillShapesWrongFalsely : Prop := fnExactMillShapesRow.holds Tryz.pinned (OpenSpec.ofChange fnExactMillShapesWrong)

/- THE SECOND FORM. 'bulk': how many values and letters a reading holds, each counted each time it is reached (what is shared counts as often as it is met; a slice's spare places count too). A statement '..UptoSaid' is the law's where the arguments, and the package variables that the reading takes, are together of bulk at most 1048576: NARROWER than '..Said'. Prove '..Said' where nothing that the law and all that it calls make is longer than what came in: it says more and counts as full. Else prove '..UptoSaid'. A law counts once. -/
mutual
def uptoBulk {H : Type} : DataW H → Nat
  | .lit (.string bytes) => bytes.length + 1
  | .lit _ => 1
  | .nil => 1
  | .ptr d => uptoBulk d + 1
  | .slice elems spare => uptoBulkAll elems + uptoBulkAll spare + 1
  | .agg parts => uptoBulkAll parts + 1
  | .iface _ d => uptoBulk d + 1
  | .map entries => uptoBulkEntries entries + 1
  | .held _ => 1
def uptoBulkAll {H : Type} : List (DataW H) → Nat
  | [] => 0
  | d :: r => uptoBulk d + uptoBulkAll r
def uptoBulkEntries {H : Type} : List (Lit × DataW H) → Nat
  | [] => 0
  | x :: r => uptoBulkEntry x + uptoBulkEntries r
def uptoBulkEntry {H : Type} : Lit × DataW H → Nat
  | (.string bytes, d) => bytes.length + uptoBulk d + 1
  | (_, d) => uptoBulk d + 1
 end
def uptoSmall : (H : Type) → List (DataW H) → Bool := fun _ ds => decide (uptoBulkAll ds ≤ 1048576)
def OpenSpec.upto (s : _root_.Go.ChangeSpec) : _root_.Go.OpenSpec := { _root_.Go.OpenSpec.ofChange s with cond := some uptoSmall }

/-- 'laws.FnExactMillCheckCode', WHERE WHAT IT READS IS OF BULK AT MOST 1048576: true; the input reads as it did. -/
def fnExactMillCheckCodeUptoRow : OpenClaim := { program := "ytfedmbadhcdpdaagreatdoor", sum := "e52732868ba3e16c80a1e666b00746af1b6bc5fd3d3a1b7605155f1c735f884c", func := "loop.example/kilnyard/laws.FnExactMillCheckCode", spec := "fnExactMillCheckCode", inPlace := ["slices.overlaps[int]", "internal/reflectlite.ValueOf", "(internal/reflectlite.Value).Type", "(internal/reflectlite.Value).IsNil", "internal/reflectlite.TypeOf", "(internal/reflectlite.Value).Elem", "(internal/reflectlite.Value).Set"], unfollowed := true, recurses := true, named := ["loop.example/kilnyard/impl.millInsRows", "loop.example/kilnyard/impl.millBuiltSigns", "errors.errorType"], apart := false, laid := [("errors.errorType", laid_errors_errorType), ("loop.example/kilnyard/impl.millBuiltSigns", laid_loop_example_kilnyard_impl_millBuiltSigns), ("loop.example/kilnyard/impl.millInsRows", laid_loop_example_kilnyard_impl_millInsRows)], narrowed := true }
def FnExactMillCheckCodeUptoSaid : Prop := fnExactMillCheckCodeUptoRow.holds Tryz.pinned (OpenSpec.upto fnExactMillCheckCodeSpec)

/-- 'laws.FnExactMillShapes', WHERE WHAT IT READS IS OF BULK AT MOST 1048576: true; the input reads as it did. -/
def fnExactMillShapesUptoRow : OpenClaim := { program := "ytfedmbadhcdpdaagreatdoor", sum := "e52732868ba3e16c80a1e666b00746af1b6bc5fd3d3a1b7605155f1c735f884c", func := "loop.example/kilnyard/laws.FnExactMillShapes", spec := "fnExactMillShapes", inPlace := ["slices.overlaps[int]"], unfollowed := true, recurses := true, named := ["loop.example/kilnyard/impl.millInsRows", "loop.example/kilnyard/impl.millBuiltSigns"], apart := false, laid := [("loop.example/kilnyard/impl.millBuiltSigns", laid_loop_example_kilnyard_impl_millBuiltSigns), ("loop.example/kilnyard/impl.millInsRows", laid_loop_example_kilnyard_impl_millInsRows)], narrowed := true }
def FnExactMillShapesUptoSaid : Prop := fnExactMillShapesUptoRow.holds Tryz.pinned (OpenSpec.upto fnExactMillShapesSpec)

end Rows
end Go.Proofs.YtfedmbadhcdpdaaGreatDoor
