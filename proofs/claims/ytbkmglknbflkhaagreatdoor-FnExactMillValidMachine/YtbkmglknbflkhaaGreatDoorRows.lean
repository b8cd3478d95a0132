/-
  NARROWER THAN 'FOR EVERY INPUT', by the rows' own cells (each row's printed sentence says how): FnExactMillValidMachine: laid · FnExactMillShown: laid.
  DERIVED. THE GIVEN ROWS OF THIS SEAT. 2 by the template 'for every input the law returns true; each argument reads behind the call as it read before'; 0 by the template 'total and deterministic' (their statements: YtbkmglknbflkhaaGreatDoorTotals.lean).
  GIVEN WITH THE SEED: the statements are not yours to turn. If you find one false, say at which input.
  Laid BY PROGRAM, IN A SANDBOX (cutbox-rows.mjs): the forced cells as the released guide's own fill.sh prints them over the translation 7494099cca07cfcf… (all of the seat's roots in one cut). By AI agents, Wed Nov 11 2026. No macro, syntax, notation, axiom, sorry.
-/
import Derived.Test.YtbkmglknbflkhaaGreatDoorChecked
import GoSem.Claim
import GoSem.ClaimJoined
import GoSem.ClaimMapViews
import Derived.JoinedTies
import Derived.KernelRfl
namespace Go.Proofs.YtbkmglknbflkhaaGreatDoor
/- THE CELL 'sum', in the pinned program and in every row, IS THE sha256 OF THE DUMP (.gsa) THAT YtbkmglknbflkhaaGreatDoorProg.lean LOADS. Nothing in Lean hashes anything: it is a label: what it is worth is what the hold of that sum in a sandbox is worth. -/
noncomputable def Tryz.pinned : Pinned := { name := "ytbkmglknbflkhaagreatdoor", sum := "7494099cca07cfcfdb5369a7be3f150f38ab6bc47479a065caeb422836f84828", checked := Tryz.checked }
namespace Rows
def none {H : Type} : Left H := { results := [], args := [] }

/- WHAT THE LISTED PACKAGE-LEVEL VARIABLES READ AS WHEN THE CALL BEGINS. Each datum BY PROGRAM (the guide's laid-datum.mjs) off the statement by which the dump's own 'gosem.cut.vars' lays the variable. In a bare row this is a premise. The card (YtbkmglknbflkhaaGreatDoorCards.lean) ties it to the program's text. -/
def laid_loop_example_kilnyard_impl_millBuiltSigns {H : Type} : DataW H := .agg [.agg [.nil, .lit (.int .i64 0)], .agg [.slice [.lit (.int .i64 2)] [], .lit (.int .i64 2)], .agg [.slice [.lit (.int .i64 2)] [], .lit (.int .i64 1)], .agg [.slice [.lit (.int .i64 2)] [], .lit (.int .i64 2)], .agg [.slice [.lit (.int .i64 2), .lit (.int .i64 2)] [], .lit (.int .i64 2)], .agg [.nil, .lit (.int .i64 2)], .agg [.slice [.lit (.int .i64 2)] [], .lit (.int .i64 10)], .agg [.slice [.lit (.int .i64 2), .lit (.int .i64 10)] [], .lit (.int .i64 3)], .agg [.slice [.lit (.int .i64 2), .lit (.int .i64 10), .lit (.int .i64 10)] [], .lit (.int .i64 2)], .agg [.slice [.lit (.int .i64 2), .lit (.int .i64 2)] [], .lit (.int .i64 10)], .agg [.slice [.lit (.int .i64 3)] [], .lit (.int .i64 2)], .agg [.slice [.lit (.int .i64 (-1))] [], .lit (.int .i64 2)], .agg [.slice [.lit (.int .i64 2)] [], .lit (.int .i64 10)]]
def laid_loop_example_kilnyard_impl_millInsRows {H : Type} : DataW H := .agg [.agg [.lit (.int .i64 0), .nil, .lit (.int .i64 0)], .agg [.lit (.int .i64 1), .nil, .lit (.int .i64 1)], .agg [.lit (.int .i64 2), .nil, .lit (.int .i64 2)], .agg [.lit (.int .i64 2), .slice [.lit (.int .i64 (-2))] [], .lit (.int .i64 0)], .agg [.lit (.int .i64 0), .slice [.lit (.int .i64 (-2))] [], .lit (.int .i64 0)], .agg [.lit (.int .i64 3), .slice [.lit (.int .i64 (-2))] [], .lit (.int .i64 3)], .agg [.lit (.int .i64 4), .slice [.lit (.int .i64 (-2)), .lit (.int .i64 (-2))] [], .lit (.int .i64 4)], .agg [.lit (.int .i64 5), .slice [.lit (.int .i64 (-1))] [], .lit (.int .i64 1)], .agg [.lit (.int .i64 6), .nil, .lit (.int .i64 5)], .agg [.lit (.int .i64 7), .nil, .lit (.int .i64 6)], .agg [.lit (.int .i64 8), .nil, .lit (.int .i64 0)], .agg [.lit (.int .i64 8), .slice [.lit (.int .i64 1)] [], .lit (.int .i64 0)], .agg [.lit (.int .i64 9), .nil, .lit (.int .i64 0)], .agg [.lit (.int .i64 0), .slice [.lit (.int .i64 2)] [], .lit (.int .i64 0)], .agg [.lit (.int .i64 0), .slice [.lit (.int .i64 2), .lit (.int .i64 2)] [], .lit (.int .i64 0)], .agg [.lit (.int .i64 0), .slice [.lit (.int .i64 2)] [], .lit (.int .i64 0)], .agg [.lit (.int .i64 0), .nil, .lit (.int .i64 0)]]

/-- 'laws.FnExactMillValidMachine': WHATEVER THE INPUT: true; the input reads as it did. -/
def fnExactMillValidMachineSpec : ChangeSpec := { name := "fnExactMillValidMachine", vars := ["loop.example/kilnyard/impl.millInsRows", "loop.example/kilnyard/impl.millBuiltSigns"], fn := fun _ => fun
  | [d, g1, g2] => { results := [.lit (.bool true)], args := [d], vars := [g1, g2] }
  | _ => none }
def fnExactMillValidMachineRow : OpenClaim := { program := "ytbkmglknbflkhaagreatdoor", sum := "7494099cca07cfcfdb5369a7be3f150f38ab6bc47479a065caeb422836f84828", func := "loop.example/kilnyard/laws.FnExactMillValidMachine", spec := "fnExactMillValidMachine", inPlace := ["slices.overlaps[int]"], unfollowed := true, recurses := true, named := ["loop.example/kilnyard/impl.millInsRows", "loop.example/kilnyard/impl.millBuiltSigns"], apart := false, laid := [("loop.example/kilnyard/impl.millBuiltSigns", laid_loop_example_kilnyard_impl_millBuiltSigns), ("loop.example/kilnyard/impl.millInsRows", laid_loop_example_kilnyard_impl_millInsRows)] }
def FnExactMillValidMachineSaid : Prop := fnExactMillValidMachineRow.holds Tryz.pinned (OpenSpec.ofChange fnExactMillValidMachineSpec)

/-- ITS FALSE NEIGHBOUR: 'it returns false'. Refute it at one input. -/
def fnExactMillValidMachineWrong : ChangeSpec := { name := "fnExactMillValidMachine", vars := ["loop.example/kilnyard/impl.millInsRows", "loop.example/kilnyard/impl.millBuiltSigns"], fn := fun _ => fun
  | [d, g1, g2] => { results := [.lit (.bool false)], args := [d], vars := [g1, g2] }
  | _ => none }
def FnExactMillValidMachineWrongFalsely : Prop := fnExactMillValidMachineRow.holds Tryz.pinned (OpenSpec.ofChange fnExactMillValidMachineWrong)

/-- 'laws.FnExactMillShown': WHATEVER THE INPUT: true; the input reads as it did. -/
def fnExactMillShownSpec : ChangeSpec := { name := "fnExactMillShown", vars := ["loop.example/kilnyard/impl.millInsRows", "loop.example/kilnyard/impl.millBuiltSigns"], fn := fun _ => fun
  | [d, g1, g2] => { results := [.lit (.bool true)], args := [d], vars := [g1, g2] }
  | _ => none }
def fnExactMillShownRow : OpenClaim := { program := "ytbkmglknbflkhaagreatdoor", sum := "7494099cca07cfcfdb5369a7be3f150f38ab6bc47479a065caeb422836f84828", func := "loop.example/kilnyard/laws.FnExactMillShown", spec := "fnExactMillShown", inPlace := ["slices.overlaps[int]"], unfollowed := true, recurses := true, named := ["loop.example/kilnyard/impl.millInsRows", "loop.example/kilnyard/impl.millBuiltSigns"], apart := false, laid := [("loop.example/kilnyard/impl.millBuiltSigns", laid_loop_example_kilnyard_impl_millBuiltSigns), ("loop.example/kilnyard/impl.millInsRows", laid_loop_example_kilnyard_impl_millInsRows)] }
def FnExactMillShownSaid : Prop := fnExactMillShownRow.holds Tryz.pinned (OpenSpec.ofChange fnExactMillShownSpec)

/-- ITS FALSE NEIGHBOUR: 'it returns false'. Refute it at one input. -/
def fnExactMillShownWrong : ChangeSpec := { name := "fnExactMillShown", vars := ["loop.example/kilnyard/impl.millInsRows", "loop.example/kilnyard/impl.millBuiltSigns"], fn := fun _ => fun
  | [d, g1, g2] => { results := [.lit (.bool false)], args := [d], vars := [g1, g2] }
  | _ => none }
def FnExactMillShownWrongFalsely : Prop := fnExactMillShownRow.holds Tryz.pinned (OpenSpec.ofChange fnExactMillShownWrong)

/- THE SECOND FORM. 'bulk': how many values and letters a reading holds, each counted each time it is reached (what is shared counts as often as it is met; a slice's spare places count too). A statement '..UptoSaid' is the law's where the arguments, and the package variables that the reading takes, are together of bulk at most 1048576: NARROWER than '..Said'. Prove '..Said' where nothing that the law and all that it calls make is longer than what came in: it says more and counts as full. Else prove '..UptoSaid'. A law counts once. -/
mutual
def uptoBulk {H : Type} : DataW H → Nat
  | .lit (.string bytes) => bytes.length + 1
  | .lit _ => 1
  | .nil => 1
  | .ptr d => uptoBulk d + 1
  | .slice elems spare => uptoBulkAll elems + uptoBulkAll spare + 1
  | .agg parts => uptoBulkAll parts + 1
  | .iface _ d => uptoBulk d + 1
  | .map entries => uptoBulkEntries entries + 1
  | .held _ => 1
def uptoBulkAll {H : Type} : List (DataW H) → Nat
  | [] => 0
  | d :: r => uptoBulk d + uptoBulkAll r
def uptoBulkEntries {H : Type} : List (Lit × DataW H) → Nat
  | [] => 0
  | x :: r => uptoBulkEntry x + uptoBulkEntries r
def uptoBulkEntry {H : Type} : Lit × DataW H → Nat
  | (.string bytes, d) => bytes.length + uptoBulk d + 1
  | (_, d) => uptoBulk d + 1
 end
def uptoSmall : (H : Type) → List (DataW H) → Bool := fun _ ds => decide (uptoBulkAll ds ≤ 1048576)
def OpenSpec.upto (s : _root_.Go.ChangeSpec) : _root_.Go.OpenSpec := { _root_.Go.OpenSpec.ofChange s with cond := some uptoSmall }

/-- 'laws.FnExactMillValidMachine', WHERE WHAT IT READS IS OF BULK AT MOST 1048576: true; the input reads as it did. -/
def fnExactMillValidMachineUptoRow : OpenClaim := { program := "ytbkmglknbflkhaagreatdoor", sum := "7494099cca07cfcfdb5369a7be3f150f38ab6bc47479a065caeb422836f84828", func := "loop.example/kilnyard/laws.FnExactMillValidMachine", spec := "fnExactMillValidMachine", inPlace := ["slices.overlaps[int]"], unfollowed := true, recurses := true, named := ["loop.example/kilnyard/impl.millInsRows", "loop.example/kilnyard/impl.millBuiltSigns"], apart := false, laid := [("loop.example/kilnyard/impl.millBuiltSigns", laid_loop_example_kilnyard_impl_millBuiltSigns), ("loop.example/kilnyard/impl.millInsRows", laid_loop_example_kilnyard_impl_millInsRows)], narrowed := true }
def FnExactMillValidMachineUptoSaid : Prop := fnExactMillValidMachineUptoRow.holds Tryz.pinned (OpenSpec.upto fnExactMillValidMachineSpec)

/-- 'laws.FnExactMillShown', WHERE WHAT IT READS IS OF BULK AT MOST 1048576: true; the input reads as it did. -/
def fnExactMillShownUptoRow : OpenClaim := { program := "ytbkmglknbflkhaagreatdoor", sum := "7494099cca07cfcfdb5369a7be3f150f38ab6bc47479a065caeb422836f84828", func := "loop.example/kilnyard/laws.FnExactMillShown", spec := "fnExactMillShown", inPlace := ["slices.overlaps[int]"], unfollowed := true, recurses := true, named := ["loop.example/kilnyard/impl.millInsRows", "loop.example/kilnyard/impl.millBuiltSigns"], apart := false, laid := [("loop.example/kilnyard/impl.millBuiltSigns", laid_loop_example_kilnyard_impl_millBuiltSigns), ("loop.example/kilnyard/impl.millInsRows", laid_loop_example_kilnyard_impl_millInsRows)], narrowed := true }
def FnExactMillShownUptoSaid : Prop := fnExactMillShownUptoRow.holds Tryz.pinned (OpenSpec.upto fnExactMillShownSpec)

end Rows
end Go.Proofs.YtbkmglknbflkhaaGreatDoor
