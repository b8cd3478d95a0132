/-
  DERIVED. GIVEN WITH THE SEED: THE CARDS: each row of YtbkmglknbflkhaaGreatDoorRows.lean that lists a variable, with what it lists TIED to the program's text (the seventh form; the later family's looks); each row that meets fmt, with fmt's text TOLD by the authors' own Lean function (tested against real Go, not proved from fmt's source: count such statements apart). THE CARD IS WHAT COUNTS. Prove the row's statement (the work); the ties are given (YtbkmglknbflkhaaGreatDoorTie.lean); close each card by the builder's one call (the guide's Derived/Test/ToyasCard.lean, 'card_holds'). Laid BY PROGRAM, IN A SANDBOX (cutbox-door.mjs). By AI agents, Wed Nov 11 2026. No macro, syntax, notation, axiom, sorry.
-/
import Derived.Test.YtbkmglknbflkhaaGreatDoorRows
import GoSem.ClaimSeven
namespace Go.Proofs.YtbkmglknbflkhaaGreatDoor
namespace Rows

/-- THE TIED CARD OF 'laws.FnExactMillValidMachine'. -/
def fnExactMillValidMachineCard : Claim7 := { stood := { row := fnExactMillValidMachineRow, standIns := [], harness := (true, "b1ba56a2d72cc4465dae8510fdda19b492dfb2e27f15316cc6dd80ff130350fb"), looks := false }, kinds := [], alts := [], laidByText := true, laidKinds := [.widerDeep, .data], laidTests := true, laidLooks := .later }
def FnExactMillValidMachineCardSaid : Prop := Claim7.holds Tryz.pinned (.plain (OpenSpec.ofChange fnExactMillValidMachineSpec)) fnExactMillValidMachineCard

/-- THE TIED CARD OF 'laws.FnExactMillShown'. -/
def fnExactMillShownCard : Claim7 := { stood := { row := fnExactMillShownRow, standIns := [], harness := (true, "b1ba56a2d72cc4465dae8510fdda19b492dfb2e27f15316cc6dd80ff130350fb"), looks := false }, kinds := [], alts := [], laidByText := true, laidKinds := [.widerDeep, .data], laidTests := true, laidLooks := .later }
def FnExactMillShownCardSaid : Prop := Claim7.holds Tryz.pinned (.plain (OpenSpec.ofChange fnExactMillShownSpec)) fnExactMillShownCard

/-- THE SECOND FORM's CARD OF 'laws.FnExactMillValidMachine'. -/
def fnExactMillValidMachineUptoCard : Claim7 := { stood := { row := fnExactMillValidMachineUptoRow, standIns := [], harness := (true, "b1ba56a2d72cc4465dae8510fdda19b492dfb2e27f15316cc6dd80ff130350fb"), looks := false }, kinds := [], alts := [], laidByText := true, laidKinds := [.widerDeep, .data], laidTests := true, laidLooks := .later }
def FnExactMillValidMachineUptoCardSaid : Prop := Claim7.holds Tryz.pinned (.plain (OpenSpec.upto fnExactMillValidMachineSpec)) fnExactMillValidMachineUptoCard

/-- THE SECOND FORM's CARD OF 'laws.FnExactMillShown'. -/
def fnExactMillShownUptoCard : Claim7 := { stood := { row := fnExactMillShownUptoRow, standIns := [], harness := (true, "b1ba56a2d72cc4465dae8510fdda19b492dfb2e27f15316cc6dd80ff130350fb"), looks := false }, kinds := [], alts := [], laidByText := true, laidKinds := [.widerDeep, .data], laidTests := true, laidLooks := .later }
def FnExactMillShownUptoCardSaid : Prop := Claim7.holds Tryz.pinned (.plain (OpenSpec.upto fnExactMillShownSpec)) fnExactMillShownUptoCard
end Rows
end Go.Proofs.YtbkmglknbflkhaaGreatDoor
