/-
  NARROWER THAN 'FOR EVERY INPUT', by the rows' own cells (each row's printed sentence says how): FnClayRename: laid.
  DERIVED. THE GIVEN ROWS OF THIS SEAT. 1 by the template 'for every input the law returns true; each argument reads behind the call as it read before'; 0 by the template 'total and deterministic' (their statements: YthnohneaanphbaaGreatDoorTotals.lean).
  GIVEN WITH THE SEED: the statements are not yours to turn. If you find one false, say at which input.
  Laid BY PROGRAM, IN A SANDBOX (cutbox-rows.mjs): the forced cells as the released guide's own fill.sh prints them over the translation ff2ffb9836bf2fb2… (all of the seat's roots in one cut). By AI agents, Wed Nov 11 2026. No macro, syntax, notation, axiom, sorry.
-/
import Derived.Test.YthnohneaanphbaaGreatDoorChecked
import GoSem.Claim
import GoSem.ClaimJoined
import GoSem.ClaimMapViews
import Derived.JoinedTies
import Derived.KernelRfl
namespace Go.Proofs.YthnohneaanphbaaGreatDoor
/- THE CELL 'sum', in the pinned program and in every row, IS THE sha256 OF THE DUMP (.gsa) THAT YthnohneaanphbaaGreatDoorProg.lean LOADS. Nothing in Lean hashes anything: it is a label: what it is worth is what the hold of that sum in a sandbox is worth. -/
noncomputable def Tryz.pinned : Pinned := { name := "ythnohneaanphbaagreatdoor", sum := "ff2ffb9836bf2fb29d47ab8107993bb925402c83517444d66c2d54ca4e310173", checked := Tryz.checked }
namespace Rows
def none {H : Type} : Left H := { results := [], args := [] }

/- WHAT THE LISTED PACKAGE-LEVEL VARIABLES READ AS WHEN THE CALL BEGINS. Each datum BY PROGRAM (the guide's laid-datum.mjs) off the statement by which the dump's own 'gosem.cut.vars' lays the variable. In a bare row this is a premise. The card (YthnohneaanphbaaGreatDoorCards.lean) ties it to the program's text. -/
def laid_loop_example_kilnyard_impl_clayBuiltNames {H : Type} : DataW H := .agg [.lit (.string [108, 101, 110]), .lit (.string [116, 101, 120, 116]), .lit (.string [105, 110, 116]), .lit (.string [114, 97, 110, 103, 101]), .lit (.string [115, 111, 114, 116, 101, 100]), .lit (.string [117, 110, 105, 113, 117, 101]), .lit (.string [106, 111, 105, 110]), .lit (.string [115, 112, 108, 105, 116]), .lit (.string [107, 101, 121, 115]), .lit (.string [114, 101, 99, 111, 114, 100]), .lit (.string [119, 105, 116, 104, 111, 117, 116]), .lit (.string [98, 101, 103, 105, 110, 115]), .lit (.string [99, 117, 116]), .lit (.string [102, 105, 108, 101, 115]), .lit (.string [102, 97, 105, 108])]

/-- 'laws.FnClayRename': WHATEVER THE INPUT: true; the input reads as it did. -/
def fnClayRenameSpec : ChangeSpec := { name := "fnClayRename", vars := ["loop.example/kilnyard/impl.clayBuiltNames"], fn := fun _ => fun
  | [d, g1] => { results := [.lit (.bool true)], args := [d], vars := [g1] }
  | _ => none }
def fnClayRenameRow : OpenClaim := { program := "ythnohneaanphbaagreatdoor", sum := "ff2ffb9836bf2fb29d47ab8107993bb925402c83517444d66c2d54ca4e310173", func := "loop.example/kilnyard/laws.FnClayRename", spec := "fnClayRename", unfollowed := true, recurses := true, named := ["loop.example/kilnyard/impl.clayBuiltNames"], apart := false, laid := [("loop.example/kilnyard/impl.clayBuiltNames", laid_loop_example_kilnyard_impl_clayBuiltNames)] }
def FnClayRenameSaid : Prop := fnClayRenameRow.holds Tryz.pinned (OpenSpec.ofChange fnClayRenameSpec)

/-- ITS FALSE NEIGHBOUR: 'it returns false'. Refute it at one input. -/
def fnClayRenameWrong : ChangeSpec := { name := "fnClayRename", vars := ["loop.example/kilnyard/impl.clayBuiltNames"], fn := fun _ => fun
  | [d, g1] => { results := [.lit (.bool false)], args := [d], vars := [g1] }
  | _ => none }
def FnClayRenameWrongFalsely : Prop := fnClayRenameRow.holds Tryz.pinned (OpenSpec.ofChange fnClayRenameWrong)

/- THE SECOND FORM. 'bulk': how many values and letters a reading holds, each counted each time it is reached (what is shared counts as often as it is met; a slice's spare places count too). A statement '..UptoSaid' is the law's where the arguments, and the package variables that the reading takes, are together of bulk at most 1048576: NARROWER than '..Said'. Prove '..Said' where nothing that the law and all that it calls make is longer than what came in: it says more and counts as full. Else prove '..UptoSaid'. A law counts once. -/
mutual
def uptoBulk {H : Type} : DataW H → Nat
  | .lit (.string bytes) => bytes.length + 1
  | .lit _ => 1
  | .nil => 1
  | .ptr d => uptoBulk d + 1
  | .slice elems spare => uptoBulkAll elems + uptoBulkAll spare + 1
  | .agg parts => uptoBulkAll parts + 1
  | .iface _ d => uptoBulk d + 1
  | .map entries => uptoBulkEntries entries + 1
  | .held _ => 1
def uptoBulkAll {H : Type} : List (DataW H) → Nat
  | [] => 0
  | d :: r => uptoBulk d + uptoBulkAll r
def uptoBulkEntries {H : Type} : List (Lit × DataW H) → Nat
  | [] => 0
  | x :: r => uptoBulkEntry x + uptoBulkEntries r
def uptoBulkEntry {H : Type} : Lit × DataW H → Nat
  | (.string bytes, d) => bytes.length + uptoBulk d + 1
  | (_, d) => uptoBulk d + 1
 end
def uptoSmall : (H : Type) → List (DataW H) → Bool := fun _ ds => decide (uptoBulkAll ds ≤ 1048576)
def OpenSpec.upto (s : _root_.Go.ChangeSpec) : _root_.Go.OpenSpec := { _root_.Go.OpenSpec.ofChange s with cond := some uptoSmall }

/-- 'laws.FnClayRename', WHERE WHAT IT READS IS OF BULK AT MOST 1048576: true; the input reads as it did. -/
def fnClayRenameUptoRow : OpenClaim := { program := "ythnohneaanphbaagreatdoor", sum := "ff2ffb9836bf2fb29d47ab8107993bb925402c83517444d66c2d54ca4e310173", func := "loop.example/kilnyard/laws.FnClayRename", spec := "fnClayRename", unfollowed := true, recurses := true, named := ["loop.example/kilnyard/impl.clayBuiltNames"], apart := false, laid := [("loop.example/kilnyard/impl.clayBuiltNames", laid_loop_example_kilnyard_impl_clayBuiltNames)], narrowed := true }
def FnClayRenameUptoSaid : Prop := fnClayRenameUptoRow.holds Tryz.pinned (OpenSpec.upto fnClayRenameSpec)

end Rows
end Go.Proofs.YthnohneaanphbaaGreatDoor
