/-
  NARROWER THAN 'FOR EVERY INPUT', by the rows' own cells (each row's printed sentence says how): FnExactMillBinary: ifaces, laid · FnMillBits: ifaces, laid.
  DERIVED. THE GIVEN ROWS OF THIS SEAT. 2 by the template 'for every input the law returns true; each argument reads behind the call as it read before'; 0 by the template 'total and deterministic' (their statements: YtmmgpbjmegfffaaDoorTotals.lean).
  GIVEN WITH THE SEED: the statements are not yours to turn. If you find one false, say at which input.
  Laid BY PROGRAM, IN A SANDBOX (cutbox-rows.mjs): the forced cells as the released guide's own fill.sh prints them over the translation 153e160164142555… (all of the seat's roots in one cut). By AI agents, Wed Nov 11 2026. No macro, syntax, notation, axiom, sorry.
-/
import Derived.Test.YtmmgpbjmegfffaaDoorChecked
import GoSem.Claim
import GoSem.ClaimJoined
import GoSem.ClaimMapViews
import Derived.JoinedTies
import Derived.KernelRfl
namespace Go.Proofs.YtmmgpbjmegfffaaDoor
/- THE CELL 'sum', in the pinned program and in every row, IS THE sha256 OF THE DUMP (.gsa) THAT YtmmgpbjmegfffaaDoorProg.lean LOADS. Nothing in Lean hashes anything: it is a label: what it is worth is what the hold of that sum in a sandbox is worth. -/
noncomputable def Tryd.pinned : Pinned := { name := "ytmmgpbjmegfffaadoor", sum := "153e160164142555c73aa67a673fcbbb52c8597107b7f975df1e640240a303d8", checked := Tryd.checked }
namespace Rows
def none {H : Type} : Left H := { results := [], args := [] }

/- WHAT THE LISTED PACKAGE-LEVEL VARIABLES READ AS WHEN THE CALL BEGINS. Each datum BY PROGRAM (the guide's laid-datum.mjs) off the statement by which the dump's own 'gosem.cut.vars' lays the variable. In a bare row this is a premise. The card (YtmmgpbjmegfffaaDoorCards.lean) ties it to the program's text. -/
def laid_loop_example_kilnyard_impl_errMillType {H : Type} : DataW H := .iface "*errors.errorString" (.ptr (.agg [.lit (.string [116, 121, 112, 101])]))
def laid_loop_example_kilnyard_impl_errMillDivide {H : Type} : DataW H := .iface "*errors.errorString" (.ptr (.agg [.lit (.string [100, 105, 118, 105, 100, 101])]))
def laid_loop_example_kilnyard_impl_errMillLong {H : Type} : DataW H := .iface "*errors.errorString" (.ptr (.agg [.lit (.string [108, 111, 110, 103])]))

/-- 'laws.FnExactMillBinary': WHATEVER THE INPUT: true; the input reads as it did. -/
def fnExactMillBinarySpec : ChangeSpec := { name := "fnExactMillBinary", vars := ["loop.example/kilnyard/impl.errMillType", "loop.example/kilnyard/impl.errMillLong", "loop.example/kilnyard/impl.errMillDivide"], fn := fun _ => fun
  | [d1, d2, d3, g1, g2, g3] => { results := [.lit (.bool true)], args := [d1, d2, d3], vars := [g1, g2, g3] }
  | _ => none }
def fnExactMillBinaryRow : OpenClaim := { program := "ytmmgpbjmegfffaadoor", sum := "153e160164142555c73aa67a673fcbbb52c8597107b7f975df1e640240a303d8", func := "loop.example/kilnyard/laws.FnExactMillBinary", spec := "fnExactMillBinary", inPlace := ["internal/abi.NoEscape", "internal/bytealg.MakeNoZero"], unfollowed := true, recurses := true, named := ["loop.example/kilnyard/impl.errMillType", "loop.example/kilnyard/impl.errMillLong", "loop.example/kilnyard/impl.errMillDivide"], ifaces := true, apart := false, laid := [("loop.example/kilnyard/impl.errMillType", laid_loop_example_kilnyard_impl_errMillType), ("loop.example/kilnyard/impl.errMillDivide", laid_loop_example_kilnyard_impl_errMillDivide), ("loop.example/kilnyard/impl.errMillLong", laid_loop_example_kilnyard_impl_errMillLong)] }
def FnExactMillBinarySaid : Prop := fnExactMillBinaryRow.holds Tryd.pinned (OpenSpec.ofChange fnExactMillBinarySpec)

/-- ITS FALSE NEIGHBOUR: 'it returns false'. Refute it at one input. -/
def fnExactMillBinaryWrong : ChangeSpec := { name := "fnExactMillBinary", vars := ["loop.example/kilnyard/impl.errMillType", "loop.example/kilnyard/impl.errMillLong", "loop.example/kilnyard/impl.errMillDivide"], fn := fun _ => fun
  | [d1, d2, d3, g1, g2, g3] => { results := [.lit (.bool false)], args := [d1, d2, d3], vars := [g1, g2, g3] }
  | _ => none }
def FnExactMillBinaryWrongFalsely : Prop := fnExactMillBinaryRow.holds Tryd.pinned (OpenSpec.ofChange fnExactMillBinaryWrong)

/-- 'laws.FnMillBits': WHATEVER THE INPUT: true; the input reads as it did. -/
def fnMillBitsSpec : ChangeSpec := { name := "fnMillBits", vars := ["loop.example/kilnyard/impl.errMillType", "loop.example/kilnyard/impl.errMillLong", "loop.example/kilnyard/impl.errMillDivide"], fn := fun _ => fun
  | [d, g1, g2, g3] => { results := [.lit (.bool true)], args := [d], vars := [g1, g2, g3] }
  | _ => none }
def fnMillBitsRow : OpenClaim := { program := "ytmmgpbjmegfffaadoor", sum := "153e160164142555c73aa67a673fcbbb52c8597107b7f975df1e640240a303d8", func := "loop.example/kilnyard/laws.FnMillBits", spec := "fnMillBits", inPlace := ["internal/abi.NoEscape", "internal/bytealg.MakeNoZero"], unfollowed := true, recurses := true, named := ["loop.example/kilnyard/impl.errMillType", "loop.example/kilnyard/impl.errMillLong", "loop.example/kilnyard/impl.errMillDivide"], ifaces := true, apart := false, laid := [("loop.example/kilnyard/impl.errMillType", laid_loop_example_kilnyard_impl_errMillType), ("loop.example/kilnyard/impl.errMillDivide", laid_loop_example_kilnyard_impl_errMillDivide), ("loop.example/kilnyard/impl.errMillLong", laid_loop_example_kilnyard_impl_errMillLong)] }
def FnMillBitsSaid : Prop := fnMillBitsRow.holds Tryd.pinned (OpenSpec.ofChange fnMillBitsSpec)

/-- ITS FALSE NEIGHBOUR: 'it returns false'. Refute it at one input. -/
def fnMillBitsWrong : ChangeSpec := { name := "fnMillBits", vars := ["loop.example/kilnyard/impl.errMillType", "loop.example/kilnyard/impl.errMillLong", "loop.example/kilnyard/impl.errMillDivide"], fn := fun _ => fun
  | [d, g1, g2, g3] => { results := [.lit (.bool false)], args := [d], vars := [g1, g2, g3] }
  | _ => none }
def FnMillBitsWrongFalsely : Prop := fnMillBitsRow.holds Tryd.pinned (OpenSpec.ofChange fnMillBitsWrong)

/- THE SECOND FORM. 'bulk': how many values and letters a reading holds, each counted each time it is reached (what is shared counts as often as it is met; a slice's spare places count too). A statement '..UptoSaid' is the law's where the arguments, and the package variables that the reading takes, are together of bulk at most 1048576: NARROWER than '..Said'. Prove '..Said' where nothing that the law and all that it calls make is longer than what came in: it says more and counts as full. Else prove '..UptoSaid'. A law counts once. -/
mutual
def uptoBulk {H : Type} : DataW H → Nat
  | .lit (.string bytes) => bytes.length + 1
  | .lit _ => 1
  | .nil => 1
  | .ptr d => uptoBulk d + 1
  | .slice elems spare => uptoBulkAll elems + uptoBulkAll spare + 1
  | .agg parts => uptoBulkAll parts + 1
  | .iface _ d => uptoBulk d + 1
  | .map entries => uptoBulkEntries entries + 1
  | .held _ => 1
def uptoBulkAll {H : Type} : List (DataW H) → Nat
  | [] => 0
  | d :: r => uptoBulk d + uptoBulkAll r
def uptoBulkEntries {H : Type} : List (Lit × DataW H) → Nat
  | [] => 0
  | x :: r => uptoBulkEntry x + uptoBulkEntries r
def uptoBulkEntry {H : Type} : Lit × DataW H → Nat
  | (.string bytes, d) => bytes.length + uptoBulk d + 1
  | (_, d) => uptoBulk d + 1
 end
def uptoSmall : (H : Type) → List (DataW H) → Bool := fun _ ds => decide (uptoBulkAll ds ≤ 1048576)
def OpenSpec.upto (s : _root_.Go.ChangeSpec) : _root_.Go.OpenSpec := { _root_.Go.OpenSpec.ofChange s with cond := some uptoSmall }

/-- 'laws.FnExactMillBinary', WHERE WHAT IT READS IS OF BULK AT MOST 1048576: true; the input reads as it did. -/
def fnExactMillBinaryUptoRow : OpenClaim := { program := "ytmmgpbjmegfffaadoor", sum := "153e160164142555c73aa67a673fcbbb52c8597107b7f975df1e640240a303d8", func := "loop.example/kilnyard/laws.FnExactMillBinary", spec := "fnExactMillBinary", inPlace := ["internal/abi.NoEscape", "internal/bytealg.MakeNoZero"], unfollowed := true, recurses := true, named := ["loop.example/kilnyard/impl.errMillType", "loop.example/kilnyard/impl.errMillLong", "loop.example/kilnyard/impl.errMillDivide"], ifaces := true, apart := false, laid := [("loop.example/kilnyard/impl.errMillType", laid_loop_example_kilnyard_impl_errMillType), ("loop.example/kilnyard/impl.errMillDivide", laid_loop_example_kilnyard_impl_errMillDivide), ("loop.example/kilnyard/impl.errMillLong", laid_loop_example_kilnyard_impl_errMillLong)], narrowed := true }
def FnExactMillBinaryUptoSaid : Prop := fnExactMillBinaryUptoRow.holds Tryd.pinned (OpenSpec.upto fnExactMillBinarySpec)

/-- 'laws.FnMillBits', WHERE WHAT IT READS IS OF BULK AT MOST 1048576: true; the input reads as it did. -/
def fnMillBitsUptoRow : OpenClaim := { program := "ytmmgpbjmegfffaadoor", sum := "153e160164142555c73aa67a673fcbbb52c8597107b7f975df1e640240a303d8", func := "loop.example/kilnyard/laws.FnMillBits", spec := "fnMillBits", inPlace := ["internal/abi.NoEscape", "internal/bytealg.MakeNoZero"], unfollowed := true, recurses := true, named := ["loop.example/kilnyard/impl.errMillType", "loop.example/kilnyard/impl.errMillLong", "loop.example/kilnyard/impl.errMillDivide"], ifaces := true, apart := false, laid := [("loop.example/kilnyard/impl.errMillType", laid_loop_example_kilnyard_impl_errMillType), ("loop.example/kilnyard/impl.errMillDivide", laid_loop_example_kilnyard_impl_errMillDivide), ("loop.example/kilnyard/impl.errMillLong", laid_loop_example_kilnyard_impl_errMillLong)], narrowed := true }
def FnMillBitsUptoSaid : Prop := fnMillBitsUptoRow.holds Tryd.pinned (OpenSpec.upto fnMillBitsSpec)

end Rows
end Go.Proofs.YtmmgpbjmegfffaaDoor
