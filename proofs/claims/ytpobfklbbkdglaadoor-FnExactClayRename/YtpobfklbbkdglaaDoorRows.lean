/-
  NARROWER THAN 'FOR EVERY INPUT', by the rows' own cells (each row's printed sentence says how): FnExactClayCheck: laid · FnExactClayBinds: laid · FnExactClayRename: laid · FnExactClayLocals: laid.
  DERIVED. THE GIVEN ROWS OF THIS SEAT. 4 by the template 'for every input the law returns true; each argument reads behind the call as it read before'; 0 by the template 'total and deterministic' (their statements: YtpobfklbbkdglaaDoorTotals.lean).
  GIVEN WITH THE SEED: the statements are not yours to turn. If you find one false, say at which input.
  Laid BY PROGRAM, IN A SANDBOX (cutbox-rows.mjs): the forced cells as the released guide's own fill.sh prints them over the translation c358ecb86e2629f3… (all of the seat's roots in one cut). By AI agents, Wed Nov 11 2026. No macro, syntax, notation, axiom, sorry.
-/
import Derived.Test.YtpobfklbbkdglaaDoorChecked
import GoSem.Claim
import GoSem.ClaimJoined
import GoSem.ClaimMapViews
import Derived.JoinedTies
import Derived.KernelRfl
namespace Go.Proofs.YtpobfklbbkdglaaDoor
/- THE CELL 'sum', in the pinned program and in every row, IS THE sha256 OF THE DUMP (.gsa) THAT YtpobfklbbkdglaaDoorProg.lean LOADS. Nothing in Lean hashes anything: it is a label: what it is worth is what the hold of that sum in a sandbox is worth. -/
noncomputable def Tryd.pinned : Pinned := { name := "ytpobfklbbkdglaadoor", sum := "c358ecb86e2629f3e31b61d43bfa0a137f13b7bb3e63d75d0650b613bdd097a3", checked := Tryd.checked }
namespace Rows
def none {H : Type} : Left H := { results := [], args := [] }

/- WHAT THE LISTED PACKAGE-LEVEL VARIABLES READ AS WHEN THE CALL BEGINS. Each datum BY PROGRAM (the guide's laid-datum.mjs) off the statement by which the dump's own 'gosem.cut.vars' lays the variable. In a bare row this is a premise. The card (YtpobfklbbkdglaaDoorCards.lean) ties it to the program's text. -/
def laid_loop_example_kilnyard_impl_clayBuiltNames {H : Type} : DataW H := .agg [.lit (.string [108, 101, 110]), .lit (.string [116, 101, 120, 116]), .lit (.string [105, 110, 116]), .lit (.string [114, 97, 110, 103, 101]), .lit (.string [115, 111, 114, 116, 101, 100]), .lit (.string [117, 110, 105, 113, 117, 101]), .lit (.string [106, 111, 105, 110]), .lit (.string [115, 112, 108, 105, 116]), .lit (.string [107, 101, 121, 115]), .lit (.string [114, 101, 99, 111, 114, 100]), .lit (.string [119, 105, 116, 104, 111, 117, 116]), .lit (.string [98, 101, 103, 105, 110, 115]), .lit (.string [99, 117, 116]), .lit (.string [102, 105, 108, 101, 115]), .lit (.string [102, 97, 105, 108])]

/-- 'laws.FnExactClayCheck': WHATEVER THE INPUT: true; the input reads as it did. -/
def fnExactClayCheckSpec : ChangeSpec := { name := "fnExactClayCheck", vars := ["loop.example/kilnyard/impl.clayBuiltNames"], fn := fun _ => fun
  | [d, g1] => { results := [.lit (.bool true)], args := [d], vars := [g1] }
  | _ => none }
def fnExactClayCheckRow : OpenClaim := { program := "ytpobfklbbkdglaadoor", sum := "c358ecb86e2629f3e31b61d43bfa0a137f13b7bb3e63d75d0650b613bdd097a3", func := "loop.example/kilnyard/laws.FnExactClayCheck", spec := "fnExactClayCheck", unfollowed := true, recurses := true, named := ["loop.example/kilnyard/impl.clayBuiltNames"], apart := false, laid := [("loop.example/kilnyard/impl.clayBuiltNames", laid_loop_example_kilnyard_impl_clayBuiltNames)] }
def FnExactClayCheckSaid : Prop := fnExactClayCheckRow.holds Tryd.pinned (OpenSpec.ofChange fnExactClayCheckSpec)

/-- ITS FALSE NEIGHBOUR: 'it returns false'. Refute it at one input. -/
def fnExactClayCheckWrong : ChangeSpec := { name := "fnExactClayCheck", vars := ["loop.example/kilnyard/impl.clayBuiltNames"], fn := fun _ => fun
  | [d, g1] => { results := [.lit (.bool false)], args := [d], vars := [g1] }
  | _ => none }
def FnExactClayCheckWrongFalsely : Prop := fnExactClayCheckRow.holds Tryd.pinned (OpenSpec.ofChange fnExactClayCheckWrong)

/-- 'laws.FnExactClayBinds': WHATEVER THE INPUT: true; the input reads as it did. -/
def fnExactClayBindsSpec : ChangeSpec := { name := "fnExactClayBinds", vars := ["loop.example/kilnyard/impl.clayBuiltNames"], fn := fun _ => fun
  | [d, g1] => { results := [.lit (.bool true)], args := [d], vars := [g1] }
  | _ => none }
def fnExactClayBindsRow : OpenClaim := { program := "ytpobfklbbkdglaadoor", sum := "c358ecb86e2629f3e31b61d43bfa0a137f13b7bb3e63d75d0650b613bdd097a3", func := "loop.example/kilnyard/laws.FnExactClayBinds", spec := "fnExactClayBinds", unfollowed := true, recurses := true, named := ["loop.example/kilnyard/impl.clayBuiltNames"], apart := false, laid := [("loop.example/kilnyard/impl.clayBuiltNames", laid_loop_example_kilnyard_impl_clayBuiltNames)] }
def FnExactClayBindsSaid : Prop := fnExactClayBindsRow.holds Tryd.pinned (OpenSpec.ofChange fnExactClayBindsSpec)

/-- ITS FALSE NEIGHBOUR: 'it returns false'. Refute it at one input. -/
def fnExactClayBindsWrong : ChangeSpec := { name := "fnExactClayBinds", vars := ["loop.example/kilnyard/impl.clayBuiltNames"], fn := fun _ => fun
  | [d, g1] => { results := [.lit (.bool false)], args := [d], vars := [g1] }
  | _ => none }
def FnExactClayBindsWrongFalsely : Prop := fnExactClayBindsRow.holds Tryd.pinned (OpenSpec.ofChange fnExactClayBindsWrong)

/-- 'laws.FnExactClayRename': WHATEVER THE INPUT: true; the input reads as it did. -/
def fnExactClayRenameSpec : ChangeSpec := { name := "fnExactClayRename", vars := ["loop.example/kilnyard/impl.clayBuiltNames"], fn := fun _ => fun
  | [d1, d2, d3, g1] => { results := [.lit (.bool true)], args := [d1, d2, d3], vars := [g1] }
  | _ => none }
def fnExactClayRenameRow : OpenClaim := { program := "ytpobfklbbkdglaadoor", sum := "c358ecb86e2629f3e31b61d43bfa0a137f13b7bb3e63d75d0650b613bdd097a3", func := "loop.example/kilnyard/laws.FnExactClayRename", spec := "fnExactClayRename", unfollowed := true, recurses := true, named := ["loop.example/kilnyard/impl.clayBuiltNames"], apart := false, laid := [("loop.example/kilnyard/impl.clayBuiltNames", laid_loop_example_kilnyard_impl_clayBuiltNames)] }
def FnExactClayRenameSaid : Prop := fnExactClayRenameRow.holds Tryd.pinned (OpenSpec.ofChange fnExactClayRenameSpec)

/-- ITS FALSE NEIGHBOUR: 'it returns false'. Refute it at one input. -/
def fnExactClayRenameWrong : ChangeSpec := { name := "fnExactClayRename", vars := ["loop.example/kilnyard/impl.clayBuiltNames"], fn := fun _ => fun
  | [d1, d2, d3, g1] => { results := [.lit (.bool false)], args := [d1, d2, d3], vars := [g1] }
  | _ => none }
def FnExactClayRenameWrongFalsely : Prop := fnExactClayRenameRow.holds Tryd.pinned (OpenSpec.ofChange fnExactClayRenameWrong)

/-- 'laws.FnExactClayLocals': WHATEVER THE INPUT: true; the input reads as it did. -/
def fnExactClayLocalsSpec : ChangeSpec := { name := "fnExactClayLocals", vars := ["loop.example/kilnyard/impl.clayBuiltNames"], fn := fun _ => fun
  | [d, g1] => { results := [.lit (.bool true)], args := [d], vars := [g1] }
  | _ => none }
def fnExactClayLocalsRow : OpenClaim := { program := "ytpobfklbbkdglaadoor", sum := "c358ecb86e2629f3e31b61d43bfa0a137f13b7bb3e63d75d0650b613bdd097a3", func := "loop.example/kilnyard/laws.FnExactClayLocals", spec := "fnExactClayLocals", unfollowed := true, recurses := true, named := ["loop.example/kilnyard/impl.clayBuiltNames"], apart := false, laid := [("loop.example/kilnyard/impl.clayBuiltNames", laid_loop_example_kilnyard_impl_clayBuiltNames)] }
def FnExactClayLocalsSaid : Prop := fnExactClayLocalsRow.holds Tryd.pinned (OpenSpec.ofChange fnExactClayLocalsSpec)

/-- ITS FALSE NEIGHBOUR: 'it returns false'. Refute it at one input. -/
def fnExactClayLocalsWrong : ChangeSpec := { name := "fnExactClayLocals", vars := ["loop.example/kilnyard/impl.clayBuiltNames"], fn := fun _ => fun
  | [d, g1] => { results := [.lit (.bool false)], args := [d], vars := [g1] }
  | _ => none }
def FnExactClayLocalsWrongFalsely : Prop := fnExactClayLocalsRow.holds Tryd.pinned (OpenSpec.ofChange fnExactClayLocalsWrong)

/- THE SECOND FORM. 'bulk': how many values and letters a reading holds, each counted each time it is reached (what is shared counts as often as it is met; a slice's spare places count too). A statement '..UptoSaid' is the law's where the arguments, and the package variables that the reading takes, are together of bulk at most 1048576: NARROWER than '..Said'. Prove '..Said' where nothing that the law and all that it calls make is longer than what came in: it says more and counts as full. Else prove '..UptoSaid'. A law counts once. -/
mutual
def uptoBulk {H : Type} : DataW H → Nat
  | .lit (.string bytes) => bytes.length + 1
  | .lit _ => 1
  | .nil => 1
  | .ptr d => uptoBulk d + 1
  | .slice elems spare => uptoBulkAll elems + uptoBulkAll spare + 1
  | .agg parts => uptoBulkAll parts + 1
  | .iface _ d => uptoBulk d + 1
  | .map entries => uptoBulkEntries entries + 1
  | .held _ => 1
def uptoBulkAll {H : Type} : List (DataW H) → Nat
  | [] => 0
  | d :: r => uptoBulk d + uptoBulkAll r
def uptoBulkEntries {H : Type} : List (Lit × DataW H) → Nat
  | [] => 0
  | x :: r => uptoBulkEntry x + uptoBulkEntries r
def uptoBulkEntry {H : Type} : Lit × DataW H → Nat
  | (.string bytes, d) => bytes.length + uptoBulk d + 1
  | (_, d) => uptoBulk d + 1
 end
def uptoSmall : (H : Type) → List (DataW H) → Bool := fun _ ds => decide (uptoBulkAll ds ≤ 1048576)
def OpenSpec.upto (s : _root_.Go.ChangeSpec) : _root_.Go.OpenSpec := { _root_.Go.OpenSpec.ofChange s with cond := some uptoSmall }

/-- 'laws.FnExactClayCheck', WHERE WHAT IT READS IS OF BULK AT MOST 1048576: true; the input reads as it did. -/
def fnExactClayCheckUptoRow : OpenClaim := { program := "ytpobfklbbkdglaadoor", sum := "c358ecb86e2629f3e31b61d43bfa0a137f13b7bb3e63d75d0650b613bdd097a3", func := "loop.example/kilnyard/laws.FnExactClayCheck", spec := "fnExactClayCheck", unfollowed := true, recurses := true, named := ["loop.example/kilnyard/impl.clayBuiltNames"], apart := false, laid := [("loop.example/kilnyard/impl.clayBuiltNames", laid_loop_example_kilnyard_impl_clayBuiltNames)], narrowed := true }
def FnExactClayCheckUptoSaid : Prop := fnExactClayCheckUptoRow.holds Tryd.pinned (OpenSpec.upto fnExactClayCheckSpec)

/-- 'laws.FnExactClayBinds', WHERE WHAT IT READS IS OF BULK AT MOST 1048576: true; the input reads as it did. -/
def fnExactClayBindsUptoRow : OpenClaim := { program := "ytpobfklbbkdglaadoor", sum := "c358ecb86e2629f3e31b61d43bfa0a137f13b7bb3e63d75d0650b613bdd097a3", func := "loop.example/kilnyard/laws.FnExactClayBinds", spec := "fnExactClayBinds", unfollowed := true, recurses := true, named := ["loop.example/kilnyard/impl.clayBuiltNames"], apart := false, laid := [("loop.example/kilnyard/impl.clayBuiltNames", laid_loop_example_kilnyard_impl_clayBuiltNames)], narrowed := true }
def FnExactClayBindsUptoSaid : Prop := fnExactClayBindsUptoRow.holds Tryd.pinned (OpenSpec.upto fnExactClayBindsSpec)

/-- 'laws.FnExactClayRename', WHERE WHAT IT READS IS OF BULK AT MOST 1048576: true; the input reads as it did. -/
def fnExactClayRenameUptoRow : OpenClaim := { program := "ytpobfklbbkdglaadoor", sum := "c358ecb86e2629f3e31b61d43bfa0a137f13b7bb3e63d75d0650b613bdd097a3", func := "loop.example/kilnyard/laws.FnExactClayRename", spec := "fnExactClayRename", unfollowed := true, recurses := true, named := ["loop.example/kilnyard/impl.clayBuiltNames"], apart := false, laid := [("loop.example/kilnyard/impl.clayBuiltNames", laid_loop_example_kilnyard_impl_clayBuiltNames)], narrowed := true }
def FnExactClayRenameUptoSaid : Prop := fnExactClayRenameUptoRow.holds Tryd.pinned (OpenSpec.upto fnExactClayRenameSpec)

/-- 'laws.FnExactClayLocals', WHERE WHAT IT READS IS OF BULK AT MOST 1048576: true; the input reads as it did. -/
def fnExactClayLocalsUptoRow : OpenClaim := { program := "ytpobfklbbkdglaadoor", sum := "c358ecb86e2629f3e31b61d43bfa0a137f13b7bb3e63d75d0650b613bdd097a3", func := "loop.example/kilnyard/laws.FnExactClayLocals", spec := "fnExactClayLocals", unfollowed := true, recurses := true, named := ["loop.example/kilnyard/impl.clayBuiltNames"], apart := false, laid := [("loop.example/kilnyard/impl.clayBuiltNames", laid_loop_example_kilnyard_impl_clayBuiltNames)], narrowed := true }
def FnExactClayLocalsUptoSaid : Prop := fnExactClayLocalsUptoRow.holds Tryd.pinned (OpenSpec.upto fnExactClayLocalsSpec)

end Rows
end Go.Proofs.YtpobfklbbkdglaaDoor
