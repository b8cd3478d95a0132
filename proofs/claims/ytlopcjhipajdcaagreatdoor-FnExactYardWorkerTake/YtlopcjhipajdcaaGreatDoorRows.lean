/-
  NARROWER THAN 'FOR EVERY INPUT', by the rows' own cells (each row's printed sentence says how): FnExactYardValidWorker: ifaces, laid · FnExactYardWorkerTake: ifaces, laid.
  DERIVED. THE GIVEN ROWS OF THIS SEAT. 2 by the template 'for every input the law returns true; each argument reads behind the call as it read before'; 0 by the template 'total and deterministic' (their statements: YtlopcjhipajdcaaGreatDoorTotals.lean).
  GIVEN WITH THE SEED: the statements are not yours to turn. If you find one false, say at which input.
  Laid BY PROGRAM, IN A SANDBOX (cutbox-rows.mjs): the forced cells as the released guide's own fill.sh prints them over the translation 45b5913b08e099bf… (all of the seat's roots in one cut). By AI agents, Wed Nov 11 2026. No macro, syntax, notation, axiom, sorry.
-/
import Derived.Test.YtlopcjhipajdcaaGreatDoorChecked
import GoSem.Claim
import GoSem.ClaimJoined
import GoSem.ClaimMapViews
import Derived.JoinedTies
import Derived.KernelRfl
namespace Go.Proofs.YtlopcjhipajdcaaGreatDoor
/- THE CELL 'sum', in the pinned program and in every row, IS THE sha256 OF THE DUMP (.gsa) THAT YtlopcjhipajdcaaGreatDoorProg.lean LOADS. Nothing in Lean hashes anything: it is a label: what it is worth is what the hold of that sum in a sandbox is worth. -/
noncomputable def Tryz.pinned : Pinned := { name := "ytlopcjhipajdcaagreatdoor", sum := "45b5913b08e099bf4da7d6439b69cfefeb6932ea5c4ff73ade1424a2ac6470b9", checked := Tryz.checked }
namespace Rows
def none {H : Type} : Left H := { results := [], args := [] }

/- WHAT THE LISTED PACKAGE-LEVEL VARIABLES READ AS WHEN THE CALL BEGINS. Each datum BY PROGRAM (the guide's laid-datum.mjs) off the statement by which the dump's own 'gosem.cut.vars' lays the variable. In a bare row this is a premise. The card (YtlopcjhipajdcaaGreatDoorCards.lean) ties it to the program's text. -/
def laid_loop_example_kilnyard_impl_errYardWord {H : Type} : DataW H := .iface "*errors.errorString" (.ptr (.agg [.lit (.string [97, 110, 111, 116, 104, 101, 114, 32, 119, 111, 114, 100, 32, 98, 101, 103, 105, 110, 115, 32, 116, 104, 101, 32, 108, 105, 110, 101])]))
def laid_loop_example_kilnyard_impl_errYardBlank {H : Type} : DataW H := .iface "*errors.errorString" (.ptr (.agg [.lit (.string [97, 32, 112, 97, 114, 116, 32, 105, 115, 32, 109, 105, 115, 115, 105, 110, 103])]))
def laid_loop_example_kilnyard_impl_errYardAnew {H : Type} : DataW H := .iface "*errors.errorString" (.ptr (.agg [.lit (.string [116, 104, 105, 115, 32, 119, 111, 117, 108, 100, 32, 98, 101, 32, 119, 114, 105, 116, 116, 101, 110, 32, 111, 116, 104, 101, 114, 119, 105, 115, 101])]))
def laid_loop_example_kilnyard_impl_errYardEnds {H : Type} : DataW H := .iface "*errors.errorString" (.ptr (.agg [.lit (.string [116, 104, 101, 32, 108, 105, 110, 101, 32, 100, 111, 101, 115, 32, 110, 111, 116, 32, 101, 110, 100])]))

/-- 'laws.FnExactYardValidWorker': WHATEVER THE INPUT: true; the input reads as it did. -/
def fnExactYardValidWorkerSpec : ChangeSpec := { name := "fnExactYardValidWorker", vars := ["loop.example/kilnyard/impl.errYardWord", "loop.example/kilnyard/impl.errYardBlank", "loop.example/kilnyard/impl.errYardAnew", "loop.example/kilnyard/impl.errYardEnds"], fn := fun _ => fun
  | [d, g1, g2, g3, g4] => { results := [.lit (.bool true)], args := [d], vars := [g1, g2, g3, g4] }
  | _ => none }
def fnExactYardValidWorkerRow : OpenClaim := { program := "ytlopcjhipajdcaagreatdoor", sum := "45b5913b08e099bf4da7d6439b69cfefeb6932ea5c4ff73ade1424a2ac6470b9", func := "loop.example/kilnyard/laws.FnExactYardValidWorker", spec := "fnExactYardValidWorker", inPlace := ["internal/abi.NoEscape", "internal/bytealg.IndexByteString", "internal/bytealg.IndexString"], unfollowed := true, recurses := true, named := ["loop.example/kilnyard/impl.errYardWord", "loop.example/kilnyard/impl.errYardBlank", "loop.example/kilnyard/impl.errYardAnew", "loop.example/kilnyard/impl.errYardEnds", "internal/bytealg.MaxLen"], ifaces := true, apart := false, laid := [("loop.example/kilnyard/impl.errYardWord", laid_loop_example_kilnyard_impl_errYardWord), ("loop.example/kilnyard/impl.errYardBlank", laid_loop_example_kilnyard_impl_errYardBlank), ("loop.example/kilnyard/impl.errYardAnew", laid_loop_example_kilnyard_impl_errYardAnew), ("loop.example/kilnyard/impl.errYardEnds", laid_loop_example_kilnyard_impl_errYardEnds)] }
def FnExactYardValidWorkerSaid : Prop := fnExactYardValidWorkerRow.holds Tryz.pinned (OpenSpec.ofChange fnExactYardValidWorkerSpec)

/-- ITS FALSE NEIGHBOUR: 'it returns false'. Refute it at one input. -/
def fnExactYardValidWorkerWrong : ChangeSpec := { name := "fnExactYardValidWorker", vars := ["loop.example/kilnyard/impl.errYardWord", "loop.example/kilnyard/impl.errYardBlank", "loop.example/kilnyard/impl.errYardAnew", "loop.example/kilnyard/impl.errYardEnds"], fn := fun _ => fun
  | [d, g1, g2, g3, g4] => { results := [.lit (.bool false)], args := [d], vars := [g1, g2, g3, g4] }
  | _ => none }
def FnExactYardValidWorkerWrongFalsely : Prop := fnExactYardValidWorkerRow.holds Tryz.pinned (OpenSpec.ofChange fnExactYardValidWorkerWrong)

/-- 'laws.FnExactYardWorkerTake': WHATEVER THE INPUT: true; the input reads as it did. -/
def fnExactYardWorkerTakeSpec : ChangeSpec := { name := "fnExactYardWorkerTake", vars := ["loop.example/kilnyard/impl.errYardWord", "loop.example/kilnyard/impl.errYardBlank", "loop.example/kilnyard/impl.errYardAnew", "loop.example/kilnyard/impl.errYardEnds"], fn := fun _ => fun
  | [d1, d2, g1, g2, g3, g4] => { results := [.lit (.bool true)], args := [d1, d2], vars := [g1, g2, g3, g4] }
  | _ => none }
def fnExactYardWorkerTakeRow : OpenClaim := { program := "ytlopcjhipajdcaagreatdoor", sum := "45b5913b08e099bf4da7d6439b69cfefeb6932ea5c4ff73ade1424a2ac6470b9", func := "loop.example/kilnyard/laws.FnExactYardWorkerTake", spec := "fnExactYardWorkerTake", inPlace := ["internal/abi.NoEscape", "internal/bytealg.IndexByteString", "internal/bytealg.IndexString"], unfollowed := true, recurses := true, named := ["loop.example/kilnyard/impl.errYardWord", "loop.example/kilnyard/impl.errYardBlank", "loop.example/kilnyard/impl.errYardAnew", "loop.example/kilnyard/impl.errYardEnds", "internal/bytealg.MaxLen"], ifaces := true, apart := false, laid := [("loop.example/kilnyard/impl.errYardWord", laid_loop_example_kilnyard_impl_errYardWord), ("loop.example/kilnyard/impl.errYardBlank", laid_loop_example_kilnyard_impl_errYardBlank), ("loop.example/kilnyard/impl.errYardAnew", laid_loop_example_kilnyard_impl_errYardAnew), ("loop.example/kilnyard/impl.errYardEnds", laid_loop_example_kilnyard_impl_errYardEnds)] }
def FnExactYardWorkerTakeSaid : Prop := fnExactYardWorkerTakeRow.holds Tryz.pinned (OpenSpec.ofChange fnExactYardWorkerTakeSpec)

/-- ITS FALSE NEIGHBOUR: 'it returns false'. Refute it at one input. -/
def fnExactYardWorkerTakeWrong : ChangeSpec := { name := "fnExactYardWorkerTake", vars := ["loop.example/kilnyard/impl.errYardWord", "loop.example/kilnyard/impl.errYardBlank", "loop.example/kilnyard/impl.errYardAnew", "loop.example/kilnyard/impl.errYardEnds"], fn := fun _ => fun
  | [d1, d2, g1, g2, g3, g4] => { results := [.lit (.bool false)], args := [d1, d2], vars := [g1, g2, g3, g4] }
  | _ => none }
def FnExactYardWorkerTakeWrongFalsely : Prop := fnExactYardWorkerTakeRow.holds Tryz.pinned (OpenSpec.ofChange fnExactYardWorkerTakeWrong)

/- THE SECOND FORM. 'bulk': how many values and letters a reading holds, each counted each time it is reached (what is shared counts as often as it is met; a slice's spare places count too). A statement '..UptoSaid' is the law's where the arguments, and the package variables that the reading takes, are together of bulk at most 1048576: NARROWER than '..Said'. Prove '..Said' where nothing that the law and all that it calls make is longer than what came in: it says more and counts as full. Else prove '..UptoSaid'. A law counts once. -/
mutual
def uptoBulk {H : Type} : DataW H → Nat
  | .lit (.string bytes) => bytes.length + 1
  | .lit _ => 1
  | .nil => 1
  | .ptr d => uptoBulk d + 1
  | .slice elems spare => uptoBulkAll elems + uptoBulkAll spare + 1
  | .agg parts => uptoBulkAll parts + 1
  | .iface _ d => uptoBulk d + 1
  | .map entries => uptoBulkEntries entries + 1
  | .held _ => 1
def uptoBulkAll {H : Type} : List (DataW H) → Nat
  | [] => 0
  | d :: r => uptoBulk d + uptoBulkAll r
def uptoBulkEntries {H : Type} : List (Lit × DataW H) → Nat
  | [] => 0
  | x :: r => uptoBulkEntry x + uptoBulkEntries r
def uptoBulkEntry {H : Type} : Lit × DataW H → Nat
  | (.string bytes, d) => bytes.length + uptoBulk d + 1
  | (_, d) => uptoBulk d + 1
 end
def uptoSmall : (H : Type) → List (DataW H) → Bool := fun _ ds => decide (uptoBulkAll ds ≤ 1048576)
def OpenSpec.upto (s : _root_.Go.ChangeSpec) : _root_.Go.OpenSpec := { _root_.Go.OpenSpec.ofChange s with cond := some uptoSmall }

/-- 'laws.FnExactYardValidWorker', WHERE WHAT IT READS IS OF BULK AT MOST 1048576: true; the input reads as it did. -/
def fnExactYardValidWorkerUptoRow : OpenClaim := { program := "ytlopcjhipajdcaagreatdoor", sum := "45b5913b08e099bf4da7d6439b69cfefeb6932ea5c4ff73ade1424a2ac6470b9", func := "loop.example/kilnyard/laws.FnExactYardValidWorker", spec := "fnExactYardValidWorker", inPlace := ["internal/abi.NoEscape", "internal/bytealg.IndexByteString", "internal/bytealg.IndexString"], unfollowed := true, recurses := true, named := ["loop.example/kilnyard/impl.errYardWord", "loop.example/kilnyard/impl.errYardBlank", "loop.example/kilnyard/impl.errYardAnew", "loop.example/kilnyard/impl.errYardEnds", "internal/bytealg.MaxLen"], ifaces := true, apart := false, laid := [("loop.example/kilnyard/impl.errYardWord", laid_loop_example_kilnyard_impl_errYardWord), ("loop.example/kilnyard/impl.errYardBlank", laid_loop_example_kilnyard_impl_errYardBlank), ("loop.example/kilnyard/impl.errYardAnew", laid_loop_example_kilnyard_impl_errYardAnew), ("loop.example/kilnyard/impl.errYardEnds", laid_loop_example_kilnyard_impl_errYardEnds)], narrowed := true }
def FnExactYardValidWorkerUptoSaid : Prop := fnExactYardValidWorkerUptoRow.holds Tryz.pinned (OpenSpec.upto fnExactYardValidWorkerSpec)

/-- 'laws.FnExactYardWorkerTake', WHERE WHAT IT READS IS OF BULK AT MOST 1048576: true; the input reads as it did. -/
def fnExactYardWorkerTakeUptoRow : OpenClaim := { program := "ytlopcjhipajdcaagreatdoor", sum := "45b5913b08e099bf4da7d6439b69cfefeb6932ea5c4ff73ade1424a2ac6470b9", func := "loop.example/kilnyard/laws.FnExactYardWorkerTake", spec := "fnExactYardWorkerTake", inPlace := ["internal/abi.NoEscape", "internal/bytealg.IndexByteString", "internal/bytealg.IndexString"], unfollowed := true, recurses := true, named := ["loop.example/kilnyard/impl.errYardWord", "loop.example/kilnyard/impl.errYardBlank", "loop.example/kilnyard/impl.errYardAnew", "loop.example/kilnyard/impl.errYardEnds", "internal/bytealg.MaxLen"], ifaces := true, apart := false, laid := [("loop.example/kilnyard/impl.errYardWord", laid_loop_example_kilnyard_impl_errYardWord), ("loop.example/kilnyard/impl.errYardBlank", laid_loop_example_kilnyard_impl_errYardBlank), ("loop.example/kilnyard/impl.errYardAnew", laid_loop_example_kilnyard_impl_errYardAnew), ("loop.example/kilnyard/impl.errYardEnds", laid_loop_example_kilnyard_impl_errYardEnds)], narrowed := true }
def FnExactYardWorkerTakeUptoSaid : Prop := fnExactYardWorkerTakeUptoRow.holds Tryz.pinned (OpenSpec.upto fnExactYardWorkerTakeSpec)

end Rows
end Go.Proofs.YtlopcjhipajdcaaGreatDoor
