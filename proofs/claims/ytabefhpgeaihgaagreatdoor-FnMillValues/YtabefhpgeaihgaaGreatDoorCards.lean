/-
  DERIVED. GIVEN WITH THE SEED: THE CARDS: each row of YtabefhpgeaihgaaGreatDoorRows.lean that lists a variable, with what it lists TIED to the program's text (the seventh form; the later family's looks); each row that meets fmt, with fmt's text TOLD by the authors' own Lean function (tested against real Go, not proved from fmt's source: count such statements apart). THE CARD IS WHAT COUNTS. Prove the row's statement (the work); the ties are given (YtabefhpgeaihgaaGreatDoorTie.lean); close each card by the builder's one call (the guide's Derived/Test/ToyasCard.lean, 'card_holds'). Laid BY PROGRAM, IN A SANDBOX (cutbox-door.mjs). By AI agents, Wed Nov 11 2026. No macro, syntax, notation, axiom, sorry.
-/
import Derived.Test.YtabefhpgeaihgaaGreatDoorRows
import GoSem.ClaimSeven
namespace Go.Proofs.YtabefhpgeaihgaaGreatDoor
namespace Rows

/-- THE TIED CARD OF 'laws.FnMillValues'. -/
def fnMillValuesCard : Claim7 := { stood := { row := fnMillValuesRow, standIns := [], harness := (true, "1477db0605c114e94ce5ae2b4a3d5b55b2c751a36822e56b19ebf7e52834cee8"), looks := true }, kinds := [], alts := [], laidByText := true, laidKinds := [.data, .data, .data, .sentinel, .sentinel, .widerDeep, .sentinel, .sentinel, .sentinel, .sentinel, .sentinel], laidTests := true, laidLooks := .later }
def FnMillValuesCardSaid : Prop := Claim7.holds Tryz.pinned (.plain (OpenSpec.ofChange fnMillValuesSpec)) fnMillValuesCard

/-- THE SECOND FORM's CARD OF 'laws.FnMillValues'. -/
def fnMillValuesUptoCard : Claim7 := { stood := { row := fnMillValuesUptoRow, standIns := [], harness := (true, "1477db0605c114e94ce5ae2b4a3d5b55b2c751a36822e56b19ebf7e52834cee8"), looks := true }, kinds := [], alts := [], laidByText := true, laidKinds := [.data, .data, .data, .sentinel, .sentinel, .widerDeep, .sentinel, .sentinel, .sentinel, .sentinel, .sentinel], laidTests := true, laidLooks := .later }
def FnMillValuesUptoCardSaid : Prop := Claim7.holds Tryz.pinned (.plain (OpenSpec.upto fnMillValuesSpec)) fnMillValuesUptoCard
end Rows
end Go.Proofs.YtabefhpgeaihgaaGreatDoor
