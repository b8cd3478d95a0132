/-
  DERIVED. GIVEN WITH THE SEED: THE CARDS: each row of YtmmgpbjmegfffaaDoorRows.lean that lists a variable, with what it lists TIED to the program's text (the seventh form; the later family's looks); each row that meets fmt, with fmt's text TOLD by the authors' own Lean function (tested against real Go, not proved from fmt's source: count such statements apart). THE CARD IS WHAT COUNTS. Prove the row's statement (the work); the ties are given (YtmmgpbjmegfffaaDoorTie.lean); close each card by the builder's one call (the guide's Derived/Test/ToyasCard.lean, 'card_holds'). Laid BY PROGRAM, IN A SANDBOX (cutbox-door.mjs). By AI agents, Wed Nov 11 2026. No macro, syntax, notation, axiom, sorry.
-/
import Derived.Test.YtmmgpbjmegfffaaDoorRows
import GoSem.ClaimSeven
namespace Go.Proofs.YtmmgpbjmegfffaaDoor
namespace Rows

/-- THE TIED CARD OF 'laws.FnExactMillBinary'. -/
def fnExactMillBinaryCard : Claim7 := { stood := { row := fnExactMillBinaryRow, standIns := [], harness := (true, "9fd7fd12240651c66b3bb350b3c2d8be1da23cf9a9881b1093bb76f38e90993d"), looks := false }, kinds := [], alts := [], laidByText := true, laidKinds := [.sentinel, .sentinel, .sentinel], laidTests := true, laidLooks := .later }
def FnExactMillBinaryCardSaid : Prop := Claim7.holds Tryd.pinned (.plain (OpenSpec.ofChange fnExactMillBinarySpec)) fnExactMillBinaryCard

/-- THE TIED CARD OF 'laws.FnMillBits'. -/
def fnMillBitsCard : Claim7 := { stood := { row := fnMillBitsRow, standIns := [], harness := (true, "9fd7fd12240651c66b3bb350b3c2d8be1da23cf9a9881b1093bb76f38e90993d"), looks := false }, kinds := [], alts := [], laidByText := true, laidKinds := [.sentinel, .sentinel, .sentinel], laidTests := true, laidLooks := .later }
def FnMillBitsCardSaid : Prop := Claim7.holds Tryd.pinned (.plain (OpenSpec.ofChange fnMillBitsSpec)) fnMillBitsCard

/-- THE SECOND FORM's CARD OF 'laws.FnExactMillBinary'. -/
def fnExactMillBinaryUptoCard : Claim7 := { stood := { row := fnExactMillBinaryUptoRow, standIns := [], harness := (true, "9fd7fd12240651c66b3bb350b3c2d8be1da23cf9a9881b1093bb76f38e90993d"), looks := false }, kinds := [], alts := [], laidByText := true, laidKinds := [.sentinel, .sentinel, .sentinel], laidTests := true, laidLooks := .later }
def FnExactMillBinaryUptoCardSaid : Prop := Claim7.holds Tryd.pinned (.plain (OpenSpec.upto fnExactMillBinarySpec)) fnExactMillBinaryUptoCard

/-- THE SECOND FORM's CARD OF 'laws.FnMillBits'. -/
def fnMillBitsUptoCard : Claim7 := { stood := { row := fnMillBitsUptoRow, standIns := [], harness := (true, "9fd7fd12240651c66b3bb350b3c2d8be1da23cf9a9881b1093bb76f38e90993d"), looks := false }, kinds := [], alts := [], laidByText := true, laidKinds := [.sentinel, .sentinel, .sentinel], laidTests := true, laidLooks := .later }
def FnMillBitsUptoCardSaid : Prop := Claim7.holds Tryd.pinned (.plain (OpenSpec.upto fnMillBitsSpec)) fnMillBitsUptoCard
end Rows
end Go.Proofs.YtmmgpbjmegfffaaDoor
