/-
  No cell of these rows narrows 'for every input' (looked for: loops, veiled, ifaces, maps, wideKeys, modest, calm, conditions, laid).
  DERIVED. THE GIVEN ROWS OF THIS SEAT. 4 by the template 'for every input the law returns true; each argument reads behind the call as it read before'; 0 by the template 'total and deterministic' (their statements: YtpligndiomblhaaTotals.lean).
  GIVEN WITH THE SEED: the statements are not yours to turn. If you find one false, say at which input.
  Laid BY PROGRAM, IN A SANDBOX (cutbox-rows.mjs): the forced cells as the released guide's own fill.sh prints them over the translation db8eeb82b636357f… (all of the seat's roots in one cut). By AI agents, Wed Nov 11 2026. No macro, syntax, notation, axiom, sorry.
-/
import Derived.Test.YtpligndiomblhaaChecked
import GoSem.Claim
import GoSem.ClaimJoined
import GoSem.ClaimMapViews
import Derived.JoinedTies
import Derived.KernelRfl
namespace Go.Proofs.Ytpligndiomblhaa
/- THE CELL 'sum', in the pinned program and in every row, IS THE sha256 OF THE DUMP (.gsa) THAT YtpligndiomblhaaProg.lean LOADS. Nothing in Lean hashes anything: it is a label: what it is worth is what the hold of that sum in a sandbox is worth. -/
noncomputable def Try.pinned : Pinned := { name := "ytpligndiomblhaa", sum := "db8eeb82b636357f605c7654a27a47691c85166b6cf1f34cb719c0284ddc3122", checked := Try.checked }
namespace Rows
def none {H : Type} : Left H := { results := [], args := [] }

/-- 'laws.FnExactMillValidPlace': WHATEVER THE INPUT: true; the input reads as it did. -/
def fnExactMillValidPlaceSpec : ChangeSpec := { name := "fnExactMillValidPlace", fn := fun _ => fun
  | [d] => { results := [.lit (.bool true)], args := [d] }
  | _ => none }
def fnExactMillValidPlaceRow : OpenClaim := { program := "ytpligndiomblhaa", sum := "db8eeb82b636357f605c7654a27a47691c85166b6cf1f34cb719c0284ddc3122", func := "loop.example/kilnyard/laws.FnExactMillValidPlace", spec := "fnExactMillValidPlace", apart := false }
def FnExactMillValidPlaceSaid : Prop := fnExactMillValidPlaceRow.holds Try.pinned (OpenSpec.ofChange fnExactMillValidPlaceSpec)

/-- ITS FALSE NEIGHBOUR: 'it returns false'. Refute it at one input. -/
def fnExactMillValidPlaceWrong : ChangeSpec := { name := "fnExactMillValidPlace", fn := fun _ => fun
  | [d] => { results := [.lit (.bool false)], args := [d] }
  | _ => none }
def FnExactMillValidPlaceWrongFalsely : Prop := fnExactMillValidPlaceRow.holds Try.pinned (OpenSpec.ofChange fnExactMillValidPlaceWrong)

/-- 'laws.FnExactMillSee': WHATEVER THE INPUT: true; the input reads as it did. -/
def fnExactMillSeeSpec : ChangeSpec := { name := "fnExactMillSee", fn := fun _ => fun
  | [d1, d2, d3] => { results := [.lit (.bool true)], args := [d1, d2, d3] }
  | _ => none }
def fnExactMillSeeRow : OpenClaim := { program := "ytpligndiomblhaa", sum := "db8eeb82b636357f605c7654a27a47691c85166b6cf1f34cb719c0284ddc3122", func := "loop.example/kilnyard/laws.FnExactMillSee", spec := "fnExactMillSee", inPlace := ["slices.overlaps[string]", "internal/abi.NoEscape"], apart := false }
def FnExactMillSeeSaid : Prop := fnExactMillSeeRow.holds Try.pinned (OpenSpec.ofChange fnExactMillSeeSpec)

/-- ITS FALSE NEIGHBOUR: 'it returns false'. Refute it at one input. -/
def fnExactMillSeeWrong : ChangeSpec := { name := "fnExactMillSee", fn := fun _ => fun
  | [d1, d2, d3] => { results := [.lit (.bool false)], args := [d1, d2, d3] }
  | _ => none }
def FnExactMillSeeWrongFalsely : Prop := fnExactMillSeeRow.holds Try.pinned (OpenSpec.ofChange fnExactMillSeeWrong)

/-- 'laws.FnExactMillHolds': WHATEVER THE INPUT: true; the input reads as it did. -/
def fnExactMillHoldsSpec : ChangeSpec := { name := "fnExactMillHolds", fn := fun _ => fun
  | [d1, d2] => { results := [.lit (.bool true)], args := [d1, d2] }
  | _ => none }
def fnExactMillHoldsRow : OpenClaim := { program := "ytpligndiomblhaa", sum := "db8eeb82b636357f605c7654a27a47691c85166b6cf1f34cb719c0284ddc3122", func := "loop.example/kilnyard/laws.FnExactMillHolds", spec := "fnExactMillHolds", inPlace := ["slices.overlaps[string]", "internal/abi.NoEscape"], unfollowed := true, recurses := true, apart := false }
def FnExactMillHoldsSaid : Prop := fnExactMillHoldsRow.holds Try.pinned (OpenSpec.ofChange fnExactMillHoldsSpec)

/-- ITS FALSE NEIGHBOUR: 'it returns false'. Refute it at one input. -/
def fnExactMillHoldsWrong : ChangeSpec := { name := "fnExactMillHolds", fn := fun _ => fun
  | [d1, d2] => { results := [.lit (.bool false)], args := [d1, d2] }
  | _ => none }
def FnExactMillHoldsWrongFalsely : Prop := fnExactMillHoldsRow.holds Try.pinned (OpenSpec.ofChange fnExactMillHoldsWrong)

/-- 'laws.FnExactMillLay': WHATEVER THE INPUT: true; the input reads as it did. -/
def fnExactMillLaySpec : ChangeSpec := { name := "fnExactMillLay", fn := fun _ => fun
  | [d1, d2] => { results := [.lit (.bool true)], args := [d1, d2] }
  | _ => none }
def fnExactMillLayRow : OpenClaim := { program := "ytpligndiomblhaa", sum := "db8eeb82b636357f605c7654a27a47691c85166b6cf1f34cb719c0284ddc3122", func := "loop.example/kilnyard/laws.FnExactMillLay", spec := "fnExactMillLay", inPlace := ["slices.overlaps[string]"], unfollowed := true, recurses := true, apart := false }
def FnExactMillLaySaid : Prop := fnExactMillLayRow.holds Try.pinned (OpenSpec.ofChange fnExactMillLaySpec)

/-- ITS FALSE NEIGHBOUR: 'it returns false'. Refute it at one input. -/
def fnExactMillLayWrong : ChangeSpec := { name := "fnExactMillLay", fn := fun _ => fun
  | [d1, d2] => { results := [.lit (.bool false)], args := [d1, d2] }
  | _ => none }
def FnExactMillLayWrongFalsely : Prop := fnExactMillLayRow.holds Try.pinned (OpenSpec.ofChange fnExactMillLayWrong)

/- THE SECOND FORM. 'bulk': how many values and letters a reading holds, each counted each time it is reached (what is shared counts as often as it is met; a slice's spare places count too). A statement '..UptoSaid' is the law's where the arguments, and the package variables that the reading takes, are together of bulk at most 1048576: NARROWER than '..Said'. Prove '..Said' where nothing that the law and all that it calls make is longer than what came in: it says more and counts as full. Else prove '..UptoSaid'. A law counts once. -/
mutual
def uptoBulk {H : Type} : DataW H → Nat
  | .lit (.string bytes) => bytes.length + 1
  | .lit _ => 1
  | .nil => 1
  | .ptr d => uptoBulk d + 1
  | .slice elems spare => uptoBulkAll elems + uptoBulkAll spare + 1
  | .agg parts => uptoBulkAll parts + 1
  | .iface _ d => uptoBulk d + 1
  | .map entries => uptoBulkEntries entries + 1
  | .held _ => 1
def uptoBulkAll {H : Type} : List (DataW H) → Nat
  | [] => 0
  | d :: r => uptoBulk d + uptoBulkAll r
def uptoBulkEntries {H : Type} : List (Lit × DataW H) → Nat
  | [] => 0
  | x :: r => uptoBulkEntry x + uptoBulkEntries r
def uptoBulkEntry {H : Type} : Lit × DataW H → Nat
  | (.string bytes, d) => bytes.length + uptoBulk d + 1
  | (_, d) => uptoBulk d + 1
 end
def uptoSmall : (H : Type) → List (DataW H) → Bool := fun _ ds => decide (uptoBulkAll ds ≤ 1048576)
def OpenSpec.upto (s : _root_.Go.ChangeSpec) : _root_.Go.OpenSpec := { _root_.Go.OpenSpec.ofChange s with cond := some uptoSmall }

/-- 'laws.FnExactMillValidPlace', WHERE WHAT IT READS IS OF BULK AT MOST 1048576: true; the input reads as it did. -/
def fnExactMillValidPlaceUptoRow : OpenClaim := { program := "ytpligndiomblhaa", sum := "db8eeb82b636357f605c7654a27a47691c85166b6cf1f34cb719c0284ddc3122", func := "loop.example/kilnyard/laws.FnExactMillValidPlace", spec := "fnExactMillValidPlace", apart := false, narrowed := true }
def FnExactMillValidPlaceUptoSaid : Prop := fnExactMillValidPlaceUptoRow.holds Try.pinned (OpenSpec.upto fnExactMillValidPlaceSpec)

/-- 'laws.FnExactMillSee', WHERE WHAT IT READS IS OF BULK AT MOST 1048576: true; the input reads as it did. -/
def fnExactMillSeeUptoRow : OpenClaim := { program := "ytpligndiomblhaa", sum := "db8eeb82b636357f605c7654a27a47691c85166b6cf1f34cb719c0284ddc3122", func := "loop.example/kilnyard/laws.FnExactMillSee", spec := "fnExactMillSee", inPlace := ["slices.overlaps[string]", "internal/abi.NoEscape"], apart := false, narrowed := true }
def FnExactMillSeeUptoSaid : Prop := fnExactMillSeeUptoRow.holds Try.pinned (OpenSpec.upto fnExactMillSeeSpec)

/-- 'laws.FnExactMillHolds', WHERE WHAT IT READS IS OF BULK AT MOST 1048576: true; the input reads as it did. -/
def fnExactMillHoldsUptoRow : OpenClaim := { program := "ytpligndiomblhaa", sum := "db8eeb82b636357f605c7654a27a47691c85166b6cf1f34cb719c0284ddc3122", func := "loop.example/kilnyard/laws.FnExactMillHolds", spec := "fnExactMillHolds", inPlace := ["slices.overlaps[string]", "internal/abi.NoEscape"], unfollowed := true, recurses := true, apart := false, narrowed := true }
def FnExactMillHoldsUptoSaid : Prop := fnExactMillHoldsUptoRow.holds Try.pinned (OpenSpec.upto fnExactMillHoldsSpec)

/-- 'laws.FnExactMillLay', WHERE WHAT IT READS IS OF BULK AT MOST 1048576: true; the input reads as it did. -/
def fnExactMillLayUptoRow : OpenClaim := { program := "ytpligndiomblhaa", sum := "db8eeb82b636357f605c7654a27a47691c85166b6cf1f34cb719c0284ddc3122", func := "loop.example/kilnyard/laws.FnExactMillLay", spec := "fnExactMillLay", inPlace := ["slices.overlaps[string]"], unfollowed := true, recurses := true, apart := false, narrowed := true }
def FnExactMillLayUptoSaid : Prop := fnExactMillLayUptoRow.holds Try.pinned (OpenSpec.upto fnExactMillLaySpec)

end Rows
end Go.Proofs.Ytpligndiomblhaa
