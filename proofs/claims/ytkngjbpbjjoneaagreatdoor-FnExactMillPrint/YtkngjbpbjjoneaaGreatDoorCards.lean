/-
  DERIVED. GIVEN WITH THE SEED: THE CARDS: each row of YtkngjbpbjjoneaaGreatDoorRows.lean that lists a variable, with what it lists TIED to the program's text (the seventh form; the later family's looks); each row that meets fmt, with fmt's text TOLD by the authors' own Lean function (tested against real Go, not proved from fmt's source: count such statements apart). THE CARD IS WHAT COUNTS. Prove the row's statement (the work); the ties are given (YtkngjbpbjjoneaaGreatDoorTie.lean); close each card by the builder's one call (the guide's Derived/Test/ToyasCard.lean, 'card_holds'). Laid BY PROGRAM, IN A SANDBOX (cutbox-door.mjs). By AI agents, Wed Nov 11 2026. No macro, syntax, notation, axiom, sorry.
-/
import Derived.Test.YtkngjbpbjjoneaaGreatDoorRows
import GoSem.ClaimSeven
namespace Go.Proofs.YtkngjbpbjjoneaaGreatDoor
namespace Rows

/-- THE TIED CARD OF 'laws.FnExactMillPrint'. -/
def fnExactMillPrintCard : Claim7 := { stood := { row := fnExactMillPrintRow, standIns := [], harness := (true, "fa50efb04f6ab8346be9e39d976f3d05ef5925844a58c479b4c04649c1177815"), looks := true }, kinds := [], alts := [], laidByText := true, laidKinds := [.data, .data, .data, .data, .data, .data, .data], laidTests := true, laidLooks := .later }
def FnExactMillPrintCardSaid : Prop := Claim7.holds Tryz.pinned (.plain (OpenSpec.ofChange fnExactMillPrintSpec)) fnExactMillPrintCard

/-- THE SECOND FORM's CARD OF 'laws.FnExactMillPrint'. -/
def fnExactMillPrintUptoCard : Claim7 := { stood := { row := fnExactMillPrintUptoRow, standIns := [], harness := (true, "fa50efb04f6ab8346be9e39d976f3d05ef5925844a58c479b4c04649c1177815"), looks := true }, kinds := [], alts := [], laidByText := true, laidKinds := [.data, .data, .data, .data, .data, .data, .data], laidTests := true, laidLooks := .later }
def FnExactMillPrintUptoCardSaid : Prop := Claim7.holds Tryz.pinned (.plain (OpenSpec.upto fnExactMillPrintSpec)) fnExactMillPrintUptoCard
end Rows
end Go.Proofs.YtkngjbpbjjoneaaGreatDoor
