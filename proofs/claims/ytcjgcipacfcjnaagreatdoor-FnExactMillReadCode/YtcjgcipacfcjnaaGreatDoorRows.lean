/-
  NARROWER THAN 'FOR EVERY INPUT', by the rows' own cells (each row's printed sentence says how): FnExactMillWriteCode: laid · FnExactMillReadCode: ifaces, laid.
  DERIVED. THE GIVEN ROWS OF THIS SEAT. 2 by the template 'for every input the law returns true; each argument reads behind the call as it read before'; 0 by the template 'total and deterministic' (their statements: YtcjgcipacfcjnaaGreatDoorTotals.lean).
  GIVEN WITH THE SEED: the statements are not yours to turn. If you find one false, say at which input.
  Laid BY PROGRAM, IN A SANDBOX (cutbox-rows.mjs): the forced cells as the released guide's own fill.sh prints them over the translation 9e3a4073cc72f642… (all of the seat's roots in one cut). By AI agents, Wed Nov 11 2026. No macro, syntax, notation, axiom, sorry.
-/
import Derived.Test.YtcjgcipacfcjnaaGreatDoorChecked
import GoSem.Claim
import GoSem.ClaimJoined
import GoSem.ClaimMapViews
import Derived.JoinedTies
import Derived.KernelRfl
namespace Go.Proofs.YtcjgcipacfcjnaaGreatDoor
/- THE CELL 'sum', in the pinned program and in every row, IS THE sha256 OF THE DUMP (.gsa) THAT YtcjgcipacfcjnaaGreatDoorProg.lean LOADS. Nothing in Lean hashes anything: it is a label: what it is worth is what the hold of that sum in a sandbox is worth. -/
noncomputable def Tryz.pinned : Pinned := { name := "ytcjgcipacfcjnaagreatdoor", sum := "9e3a4073cc72f6426344d7d4571e7af5735d6c93846026c393ea9305e565e947", checked := Tryz.checked }
namespace Rows
def none {H : Type} : Left H := { results := [], args := [] }

/- WHAT THE LISTED PACKAGE-LEVEL VARIABLES READ AS WHEN THE CALL BEGINS. Each datum BY PROGRAM (the guide's laid-datum.mjs) off the statement by which the dump's own 'gosem.cut.vars' lays the variable. In a bare row this is a premise. The card (YtcjgcipacfcjnaaGreatDoorCards.lean) ties it to the program's text. -/
def laid_loop_example_kilnyard_impl_millBuiltSigns {H : Type} : DataW H := .agg [.agg [.nil, .lit (.int .i64 0)], .agg [.slice [.lit (.int .i64 2)] [], .lit (.int .i64 2)], .agg [.slice [.lit (.int .i64 2)] [], .lit (.int .i64 1)], .agg [.slice [.lit (.int .i64 2)] [], .lit (.int .i64 2)], .agg [.slice [.lit (.int .i64 2), .lit (.int .i64 2)] [], .lit (.int .i64 2)], .agg [.nil, .lit (.int .i64 2)], .agg [.slice [.lit (.int .i64 2)] [], .lit (.int .i64 10)], .agg [.slice [.lit (.int .i64 2), .lit (.int .i64 10)] [], .lit (.int .i64 3)], .agg [.slice [.lit (.int .i64 2), .lit (.int .i64 10), .lit (.int .i64 10)] [], .lit (.int .i64 2)], .agg [.slice [.lit (.int .i64 2), .lit (.int .i64 2)] [], .lit (.int .i64 10)], .agg [.slice [.lit (.int .i64 3)] [], .lit (.int .i64 2)], .agg [.slice [.lit (.int .i64 (-1))] [], .lit (.int .i64 2)], .agg [.slice [.lit (.int .i64 2)] [], .lit (.int .i64 10)]]
def laid_loop_example_kilnyard_impl_millInsRows {H : Type} : DataW H := .agg [.agg [.lit (.int .i64 0), .nil, .lit (.int .i64 0)], .agg [.lit (.int .i64 1), .nil, .lit (.int .i64 1)], .agg [.lit (.int .i64 2), .nil, .lit (.int .i64 2)], .agg [.lit (.int .i64 2), .slice [.lit (.int .i64 (-2))] [], .lit (.int .i64 0)], .agg [.lit (.int .i64 0), .slice [.lit (.int .i64 (-2))] [], .lit (.int .i64 0)], .agg [.lit (.int .i64 3), .slice [.lit (.int .i64 (-2))] [], .lit (.int .i64 3)], .agg [.lit (.int .i64 4), .slice [.lit (.int .i64 (-2)), .lit (.int .i64 (-2))] [], .lit (.int .i64 4)], .agg [.lit (.int .i64 5), .slice [.lit (.int .i64 (-1))] [], .lit (.int .i64 1)], .agg [.lit (.int .i64 6), .nil, .lit (.int .i64 5)], .agg [.lit (.int .i64 7), .nil, .lit (.int .i64 6)], .agg [.lit (.int .i64 8), .nil, .lit (.int .i64 0)], .agg [.lit (.int .i64 8), .slice [.lit (.int .i64 1)] [], .lit (.int .i64 0)], .agg [.lit (.int .i64 9), .nil, .lit (.int .i64 0)], .agg [.lit (.int .i64 0), .slice [.lit (.int .i64 2)] [], .lit (.int .i64 0)], .agg [.lit (.int .i64 0), .slice [.lit (.int .i64 2), .lit (.int .i64 2)] [], .lit (.int .i64 0)], .agg [.lit (.int .i64 0), .slice [.lit (.int .i64 2)] [], .lit (.int .i64 0)], .agg [.lit (.int .i64 0), .nil, .lit (.int .i64 0)]]
def laid_errors_errorType {H : Type} : DataW H := .iface "internal/reflectlite.rtype" (.agg [.ptr (.lit (.string [101, 114, 114, 111, 114]))])
def laid_loop_example_kilnyard_impl_errMillFormBegins {H : Type} : DataW H := .iface "*errors.errorString" (.ptr (.agg [.lit (.string [105, 116, 32, 98, 101, 103, 105, 110, 115, 32, 111, 116, 104, 101, 114, 119, 105, 115, 101])]))
def laid_loop_example_kilnyard_impl_errMillFormEnds {H : Type} : DataW H := .iface "*errors.errorString" (.ptr (.agg [.lit (.string [105, 116, 32, 101, 110, 100, 115, 32, 116, 111, 111, 32, 101, 97, 114, 108, 121])]))
def laid_loop_example_kilnyard_impl_errMillFormLong {H : Type} : DataW H := .iface "*errors.errorString" (.ptr (.agg [.lit (.string [105, 116, 32, 103, 111, 101, 115, 32, 111, 110, 32, 116, 111, 111, 32, 108, 111, 110, 103])]))
def laid_loop_example_kilnyard_impl_errMillFormNumber {H : Type} : DataW H := .iface "*errors.errorString" (.ptr (.agg [.lit (.string [116, 104, 101, 114, 101, 32, 105, 115, 32, 110, 111, 32, 115, 117, 99, 104, 32, 110, 117, 109, 98, 101, 114])]))

/-- 'laws.FnExactMillWriteCode': WHATEVER THE INPUT: true; the input reads as it did. -/
def fnExactMillWriteCodeSpec : ChangeSpec := { name := "fnExactMillWriteCode", vars := ["loop.example/kilnyard/impl.millInsRows", "loop.example/kilnyard/impl.millBuiltSigns"], fn := fun _ => fun
  | [d, g1, g2] => { results := [.lit (.bool true)], args := [d], vars := [g1, g2] }
  | _ => none }
def fnExactMillWriteCodeRow : OpenClaim := { program := "ytcjgcipacfcjnaagreatdoor", sum := "9e3a4073cc72f6426344d7d4571e7af5735d6c93846026c393ea9305e565e947", func := "loop.example/kilnyard/laws.FnExactMillWriteCode", spec := "fnExactMillWriteCode", inPlace := ["slices.overlaps[int]", "internal/abi.NoEscape"], unfollowed := true, recurses := true, named := ["loop.example/kilnyard/impl.millInsRows", "loop.example/kilnyard/impl.millBuiltSigns"], apart := false, laid := [("loop.example/kilnyard/impl.millBuiltSigns", laid_loop_example_kilnyard_impl_millBuiltSigns), ("loop.example/kilnyard/impl.millInsRows", laid_loop_example_kilnyard_impl_millInsRows)] }
def FnExactMillWriteCodeSaid : Prop := fnExactMillWriteCodeRow.holds Tryz.pinned (OpenSpec.ofChange fnExactMillWriteCodeSpec)

/-- ITS FALSE NEIGHBOUR: 'it returns false'. Refute it at one input. -/
def fnExactMillWriteCodeWrong : ChangeSpec := { name := "fnExactMillWriteCode", vars := ["loop.example/kilnyard/impl.millInsRows", "loop.example/kilnyard/impl.millBuiltSigns"], fn := fun _ => fun
  | [d, g1, g2] => { results := [.lit (.bool false)], args := [d], vars := [g1, g2] }
  | _ => none }
def FnExactMillWriteCodeWrongFalsely : Prop := fnExactMillWriteCodeRow.holds Tryz.pinned (OpenSpec.ofChange fnExactMillWriteCodeWrong)

/-- 'laws.FnExactMillReadCode': WHATEVER THE INPUT: true; the input reads as it did. -/
def fnExactMillReadCodeSpec : ChangeSpec := { name := "fnExactMillReadCode", vars := ["loop.example/kilnyard/impl.errMillFormLong", "loop.example/kilnyard/impl.errMillFormBegins", "loop.example/kilnyard/impl.errMillFormEnds", "loop.example/kilnyard/impl.errMillFormNumber", "loop.example/kilnyard/impl.millInsRows", "loop.example/kilnyard/impl.millBuiltSigns"], fn := fun _ => fun
  | [d, g1, g2, g3, g4, g5, g6] => { results := [.lit (.bool true)], args := [d], vars := [g1, g2, g3, g4, g5, g6] }
  | _ => none }
def fnExactMillReadCodeRow : OpenClaim := { program := "ytcjgcipacfcjnaagreatdoor", sum := "9e3a4073cc72f6426344d7d4571e7af5735d6c93846026c393ea9305e565e947", func := "loop.example/kilnyard/laws.FnExactMillReadCode", spec := "fnExactMillReadCode", inPlace := ["slices.overlaps[int]", "internal/reflectlite.ValueOf", "(internal/reflectlite.Value).Type", "(internal/reflectlite.Value).IsNil", "internal/reflectlite.TypeOf", "(internal/reflectlite.Value).Elem", "(internal/reflectlite.Value).Set"], unfollowed := true, recurses := true, named := ["loop.example/kilnyard/impl.errMillFormLong", "loop.example/kilnyard/impl.errMillFormBegins", "loop.example/kilnyard/impl.errMillFormEnds", "loop.example/kilnyard/impl.errMillFormNumber", "loop.example/kilnyard/impl.millInsRows", "loop.example/kilnyard/impl.millBuiltSigns", "errors.errorType"], ifaces := true, apart := false, laid := [("errors.errorType", laid_errors_errorType), ("loop.example/kilnyard/impl.millBuiltSigns", laid_loop_example_kilnyard_impl_millBuiltSigns), ("loop.example/kilnyard/impl.errMillFormBegins", laid_loop_example_kilnyard_impl_errMillFormBegins), ("loop.example/kilnyard/impl.errMillFormEnds", laid_loop_example_kilnyard_impl_errMillFormEnds), ("loop.example/kilnyard/impl.errMillFormLong", laid_loop_example_kilnyard_impl_errMillFormLong), ("loop.example/kilnyard/impl.errMillFormNumber", laid_loop_example_kilnyard_impl_errMillFormNumber), ("loop.example/kilnyard/impl.millInsRows", laid_loop_example_kilnyard_impl_millInsRows)] }
def FnExactMillReadCodeSaid : Prop := fnExactMillReadCodeRow.holds Tryz.pinned (OpenSpec.ofChange fnExactMillReadCodeSpec)

/-- ITS FALSE NEIGHBOUR: 'it returns false'. Refute it at one input. -/
def fnExactMillReadCodeWrong : ChangeSpec := { name := "fnExactMillReadCode", vars := ["loop.example/kilnyard/impl.errMillFormLong", "loop.example/kilnyard/impl.errMillFormBegins", "loop.example/kilnyard/impl.errMillFormEnds", "loop.example/kilnyard/impl.errMillFormNumber", "loop.example/kilnyard/impl.millInsRows", "loop.example/kilnyard/impl.millBuiltSigns"], fn := fun _ => fun
  | [d, g1, g2, g3, g4, g5, g6] => { results := [.lit (.bool false)], args := [d], vars := [g1, g2, g3, g4, g5, g6] }
  | _ => none }
def FnExactMillReadCodeWrongFalsely : Prop := fnExactMillReadCodeRow.holds Tryz.pinned (OpenSpec.ofChange fnExactMillReadCodeWrong)

/- THE SECOND FORM. 'bulk': how many values and letters a reading holds, each counted each time it is reached (what is shared counts as often as it is met; a slice's spare places count too). A statement '..UptoSaid' is the law's where the arguments, and the package variables that the reading takes, are together of bulk at most 1048576: NARROWER than '..Said'. Prove '..Said' where nothing that the law and all that it calls make is longer than what came in: it says more and counts as full. Else prove '..UptoSaid'. A law counts once. -/
mutual
def uptoBulk {H : Type} : DataW H → Nat
  | .lit (.string bytes) => bytes.length + 1
  | .lit _ => 1
  | .nil => 1
  | .ptr d => uptoBulk d + 1
  | .slice elems spare => uptoBulkAll elems + uptoBulkAll spare + 1
  | .agg parts => uptoBulkAll parts + 1
  | .iface _ d => uptoBulk d + 1
  | .map entries => uptoBulkEntries entries + 1
  | .held _ => 1
def uptoBulkAll {H : Type} : List (DataW H) → Nat
  | [] => 0
  | d :: r => uptoBulk d + uptoBulkAll r
def uptoBulkEntries {H : Type} : List (Lit × DataW H) → Nat
  | [] => 0
  | x :: r => uptoBulkEntry x + uptoBulkEntries r
def uptoBulkEntry {H : Type} : Lit × DataW H → Nat
  | (.string bytes, d) => bytes.length + uptoBulk d + 1
  | (_, d) => uptoBulk d + 1
 end
def uptoSmall : (H : Type) → List (DataW H) → Bool := fun _ ds => decide (uptoBulkAll ds ≤ 1048576)
def OpenSpec.upto (s : _root_.Go.ChangeSpec) : _root_.Go.OpenSpec := { _root_.Go.OpenSpec.ofChange s with cond := some uptoSmall }

/-- 'laws.FnExactMillWriteCode', WHERE WHAT IT READS IS OF BULK AT MOST 1048576: true; the input reads as it did. -/
def fnExactMillWriteCodeUptoRow : OpenClaim := { program := "ytcjgcipacfcjnaagreatdoor", sum := "9e3a4073cc72f6426344d7d4571e7af5735d6c93846026c393ea9305e565e947", func := "loop.example/kilnyard/laws.FnExactMillWriteCode", spec := "fnExactMillWriteCode", inPlace := ["slices.overlaps[int]", "internal/abi.NoEscape"], unfollowed := true, recurses := true, named := ["loop.example/kilnyard/impl.millInsRows", "loop.example/kilnyard/impl.millBuiltSigns"], apart := false, laid := [("loop.example/kilnyard/impl.millBuiltSigns", laid_loop_example_kilnyard_impl_millBuiltSigns), ("loop.example/kilnyard/impl.millInsRows", laid_loop_example_kilnyard_impl_millInsRows)], narrowed := true }
def FnExactMillWriteCodeUptoSaid : Prop := fnExactMillWriteCodeUptoRow.holds Tryz.pinned (OpenSpec.upto fnExactMillWriteCodeSpec)

/-- 'laws.FnExactMillReadCode', WHERE WHAT IT READS IS OF BULK AT MOST 1048576: true; the input reads as it did. -/
def fnExactMillReadCodeUptoRow : OpenClaim := { program := "ytcjgcipacfcjnaagreatdoor", sum := "9e3a4073cc72f6426344d7d4571e7af5735d6c93846026c393ea9305e565e947", func := "loop.example/kilnyard/laws.FnExactMillReadCode", spec := "fnExactMillReadCode", inPlace := ["slices.overlaps[int]", "internal/reflectlite.ValueOf", "(internal/reflectlite.Value).Type", "(internal/reflectlite.Value).IsNil", "internal/reflectlite.TypeOf", "(internal/reflectlite.Value).Elem", "(internal/reflectlite.Value).Set"], unfollowed := true, recurses := true, named := ["loop.example/kilnyard/impl.errMillFormLong", "loop.example/kilnyard/impl.errMillFormBegins", "loop.example/kilnyard/impl.errMillFormEnds", "loop.example/kilnyard/impl.errMillFormNumber", "loop.example/kilnyard/impl.millInsRows", "loop.example/kilnyard/impl.millBuiltSigns", "errors.errorType"], ifaces := true, apart := false, laid := [("errors.errorType", laid_errors_errorType), ("loop.example/kilnyard/impl.millBuiltSigns", laid_loop_example_kilnyard_impl_millBuiltSigns), ("loop.example/kilnyard/impl.errMillFormBegins", laid_loop_example_kilnyard_impl_errMillFormBegins), ("loop.example/kilnyard/impl.errMillFormEnds", laid_loop_example_kilnyard_impl_errMillFormEnds), ("loop.example/kilnyard/impl.errMillFormLong", laid_loop_example_kilnyard_impl_errMillFormLong), ("loop.example/kilnyard/impl.errMillFormNumber", laid_loop_example_kilnyard_impl_errMillFormNumber), ("loop.example/kilnyard/impl.millInsRows", laid_loop_example_kilnyard_impl_millInsRows)], narrowed := true }
def FnExactMillReadCodeUptoSaid : Prop := fnExactMillReadCodeUptoRow.holds Tryz.pinned (OpenSpec.upto fnExactMillReadCodeSpec)

end Rows
end Go.Proofs.YtcjgcipacfcjnaaGreatDoor
