/-
  NARROWER THAN 'FOR EVERY INPUT', by the rows' own cells (each row's printed sentence says how): FnClayOrder: laid · FnExactClayValidValue: laid · FnExactClayOrder: laid.
  DERIVED. THE GIVEN ROWS OF THIS SEAT. 3 by the template 'for every input the law returns true; each argument reads behind the call as it read before'; 0 by the template 'total and deterministic' (their statements: YtfookokepnnmoaaDoorTotals.lean).
  GIVEN WITH THE SEED: the statements are not yours to turn. If you find one false, say at which input.
  Laid BY PROGRAM, IN A SANDBOX (cutbox-rows.mjs): the forced cells as the released guide's own fill.sh prints them over the translation 4b769723d77c88e0… (all of the seat's roots in one cut). By AI agents, Wed Nov 11 2026. No macro, syntax, notation, axiom, sorry.
-/
import Derived.Test.YtfookokepnnmoaaDoorChecked
import GoSem.Claim
import GoSem.ClaimJoined
import GoSem.ClaimMapViews
import Derived.JoinedTies
import Derived.KernelRfl
namespace Go.Proofs.YtfookokepnnmoaaDoor
/- THE CELL 'sum', in the pinned program and in every row, IS THE sha256 OF THE DUMP (.gsa) THAT YtfookokepnnmoaaDoorProg.lean LOADS. Nothing in Lean hashes anything: it is a label: what it is worth is what the hold of that sum in a sandbox is worth. -/
noncomputable def Tryd.pinned : Pinned := { name := "ytfookokepnnmoaadoor", sum := "4b769723d77c88e0868a48f8a2f3d246724b75e4d8383100b19514942871b114", checked := Tryd.checked }
namespace Rows
def none {H : Type} : Left H := { results := [], args := [] }

/- WHAT THE LISTED PACKAGE-LEVEL VARIABLES READ AS WHEN THE CALL BEGINS. Each datum BY PROGRAM (the guide's laid-datum.mjs) off the statement by which the dump's own 'gosem.cut.vars' lays the variable. In a bare row this is a premise. The card (YtfookokepnnmoaaDoorCards.lean) ties it to the program's text. -/
def laid_loop_example_kilnyard_impl_claySizeOne {H : Type} : DataW H := .agg [.lit (.int .i64 1), .lit (.int .i64 0)]

/-- 'laws.FnClayOrder': WHATEVER THE INPUT: true; the input reads as it did. -/
def fnClayOrderSpec : ChangeSpec := { name := "fnClayOrder", vars := ["loop.example/kilnyard/impl.claySizeOne"], fn := fun _ => fun
  | [d1, d2, g1] => { results := [.lit (.bool true)], args := [d1, d2], vars := [g1] }
  | _ => none }
def fnClayOrderRow : OpenClaim := { program := "ytfookokepnnmoaadoor", sum := "4b769723d77c88e0868a48f8a2f3d246724b75e4d8383100b19514942871b114", func := "loop.example/kilnyard/laws.FnClayOrder", spec := "fnClayOrder", unfollowed := true, recurses := true, named := ["loop.example/kilnyard/impl.claySizeOne"], apart := false, laid := [("loop.example/kilnyard/impl.claySizeOne", laid_loop_example_kilnyard_impl_claySizeOne)] }
def FnClayOrderSaid : Prop := fnClayOrderRow.holds Tryd.pinned (OpenSpec.ofChange fnClayOrderSpec)

/-- ITS FALSE NEIGHBOUR: 'it returns false'. Refute it at one input. -/
def fnClayOrderWrong : ChangeSpec := { name := "fnClayOrder", vars := ["loop.example/kilnyard/impl.claySizeOne"], fn := fun _ => fun
  | [d1, d2, g1] => { results := [.lit (.bool false)], args := [d1, d2], vars := [g1] }
  | _ => none }
def FnClayOrderWrongFalsely : Prop := fnClayOrderRow.holds Tryd.pinned (OpenSpec.ofChange fnClayOrderWrong)

/-- 'laws.FnExactClayValidValue': WHATEVER THE INPUT: true; the input reads as it did. -/
def fnExactClayValidValueSpec : ChangeSpec := { name := "fnExactClayValidValue", vars := ["loop.example/kilnyard/impl.claySizeOne"], fn := fun _ => fun
  | [d, g1] => { results := [.lit (.bool true)], args := [d], vars := [g1] }
  | _ => none }
def fnExactClayValidValueRow : OpenClaim := { program := "ytfookokepnnmoaadoor", sum := "4b769723d77c88e0868a48f8a2f3d246724b75e4d8383100b19514942871b114", func := "loop.example/kilnyard/laws.FnExactClayValidValue", spec := "fnExactClayValidValue", unfollowed := true, recurses := true, named := ["loop.example/kilnyard/impl.claySizeOne"], apart := false, laid := [("loop.example/kilnyard/impl.claySizeOne", laid_loop_example_kilnyard_impl_claySizeOne)] }
def FnExactClayValidValueSaid : Prop := fnExactClayValidValueRow.holds Tryd.pinned (OpenSpec.ofChange fnExactClayValidValueSpec)

/-- ITS FALSE NEIGHBOUR: 'it returns false'. Refute it at one input. -/
def fnExactClayValidValueWrong : ChangeSpec := { name := "fnExactClayValidValue", vars := ["loop.example/kilnyard/impl.claySizeOne"], fn := fun _ => fun
  | [d, g1] => { results := [.lit (.bool false)], args := [d], vars := [g1] }
  | _ => none }
def FnExactClayValidValueWrongFalsely : Prop := fnExactClayValidValueRow.holds Tryd.pinned (OpenSpec.ofChange fnExactClayValidValueWrong)

/-- 'laws.FnExactClayOrder': WHATEVER THE INPUT: true; the input reads as it did. -/
def fnExactClayOrderSpec : ChangeSpec := { name := "fnExactClayOrder", vars := ["loop.example/kilnyard/impl.claySizeOne"], fn := fun _ => fun
  | [d1, d2, g1] => { results := [.lit (.bool true)], args := [d1, d2], vars := [g1] }
  | _ => none }
def fnExactClayOrderRow : OpenClaim := { program := "ytfookokepnnmoaadoor", sum := "4b769723d77c88e0868a48f8a2f3d246724b75e4d8383100b19514942871b114", func := "loop.example/kilnyard/laws.FnExactClayOrder", spec := "fnExactClayOrder", unfollowed := true, recurses := true, named := ["loop.example/kilnyard/impl.claySizeOne"], apart := false, laid := [("loop.example/kilnyard/impl.claySizeOne", laid_loop_example_kilnyard_impl_claySizeOne)] }
def FnExactClayOrderSaid : Prop := fnExactClayOrderRow.holds Tryd.pinned (OpenSpec.ofChange fnExactClayOrderSpec)

/-- ITS FALSE NEIGHBOUR: 'it returns false'. Refute it at one input. -/
def fnExactClayOrderWrong : ChangeSpec := { name := "fnExactClayOrder", vars := ["loop.example/kilnyard/impl.claySizeOne"], fn := fun _ => fun
  | [d1, d2, g1] => { results := [.lit (.bool false)], args := [d1, d2], vars := [g1] }
  | _ => none }
def FnExactClayOrderWrongFalsely : Prop := fnExactClayOrderRow.holds Tryd.pinned (OpenSpec.ofChange fnExactClayOrderWrong)

/- THE SECOND FORM. 'bulk': how many values and letters a reading holds, each counted each time it is reached (what is shared counts as often as it is met; a slice's spare places count too). A statement '..UptoSaid' is the law's where the arguments, and the package variables that the reading takes, are together of bulk at most 1048576: NARROWER than '..Said'. Prove '..Said' where nothing that the law and all that it calls make is longer than what came in: it says more and counts as full. Else prove '..UptoSaid'. A law counts once. -/
mutual
def uptoBulk {H : Type} : DataW H → Nat
  | .lit (.string bytes) => bytes.length + 1
  | .lit _ => 1
  | .nil => 1
  | .ptr d => uptoBulk d + 1
  | .slice elems spare => uptoBulkAll elems + uptoBulkAll spare + 1
  | .agg parts => uptoBulkAll parts + 1
  | .iface _ d => uptoBulk d + 1
  | .map entries => uptoBulkEntries entries + 1
  | .held _ => 1
def uptoBulkAll {H : Type} : List (DataW H) → Nat
  | [] => 0
  | d :: r => uptoBulk d + uptoBulkAll r
def uptoBulkEntries {H : Type} : List (Lit × DataW H) → Nat
  | [] => 0
  | x :: r => uptoBulkEntry x + uptoBulkEntries r
def uptoBulkEntry {H : Type} : Lit × DataW H → Nat
  | (.string bytes, d) => bytes.length + uptoBulk d + 1
  | (_, d) => uptoBulk d + 1
 end
def uptoSmall : (H : Type) → List (DataW H) → Bool := fun _ ds => decide (uptoBulkAll ds ≤ 1048576)
def OpenSpec.upto (s : _root_.Go.ChangeSpec) : _root_.Go.OpenSpec := { _root_.Go.OpenSpec.ofChange s with cond := some uptoSmall }

/-- 'laws.FnClayOrder', WHERE WHAT IT READS IS OF BULK AT MOST 1048576: true; the input reads as it did. -/
def fnClayOrderUptoRow : OpenClaim := { program := "ytfookokepnnmoaadoor", sum := "4b769723d77c88e0868a48f8a2f3d246724b75e4d8383100b19514942871b114", func := "loop.example/kilnyard/laws.FnClayOrder", spec := "fnClayOrder", unfollowed := true, recurses := true, named := ["loop.example/kilnyard/impl.claySizeOne"], apart := false, laid := [("loop.example/kilnyard/impl.claySizeOne", laid_loop_example_kilnyard_impl_claySizeOne)], narrowed := true }
def FnClayOrderUptoSaid : Prop := fnClayOrderUptoRow.holds Tryd.pinned (OpenSpec.upto fnClayOrderSpec)

/-- 'laws.FnExactClayValidValue', WHERE WHAT IT READS IS OF BULK AT MOST 1048576: true; the input reads as it did. -/
def fnExactClayValidValueUptoRow : OpenClaim := { program := "ytfookokepnnmoaadoor", sum := "4b769723d77c88e0868a48f8a2f3d246724b75e4d8383100b19514942871b114", func := "loop.example/kilnyard/laws.FnExactClayValidValue", spec := "fnExactClayValidValue", unfollowed := true, recurses := true, named := ["loop.example/kilnyard/impl.claySizeOne"], apart := false, laid := [("loop.example/kilnyard/impl.claySizeOne", laid_loop_example_kilnyard_impl_claySizeOne)], narrowed := true }
def FnExactClayValidValueUptoSaid : Prop := fnExactClayValidValueUptoRow.holds Tryd.pinned (OpenSpec.upto fnExactClayValidValueSpec)

/-- 'laws.FnExactClayOrder', WHERE WHAT IT READS IS OF BULK AT MOST 1048576: true; the input reads as it did. -/
def fnExactClayOrderUptoRow : OpenClaim := { program := "ytfookokepnnmoaadoor", sum := "4b769723d77c88e0868a48f8a2f3d246724b75e4d8383100b19514942871b114", func := "loop.example/kilnyard/laws.FnExactClayOrder", spec := "fnExactClayOrder", unfollowed := true, recurses := true, named := ["loop.example/kilnyard/impl.claySizeOne"], apart := false, laid := [("loop.example/kilnyard/impl.claySizeOne", laid_loop_example_kilnyard_impl_claySizeOne)], narrowed := true }
def FnExactClayOrderUptoSaid : Prop := fnExactClayOrderUptoRow.holds Tryd.pinned (OpenSpec.upto fnExactClayOrderSpec)

end Rows
end Go.Proofs.YtfookokepnnmoaaDoor
