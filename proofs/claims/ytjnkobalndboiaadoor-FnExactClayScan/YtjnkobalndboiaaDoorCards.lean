/-
  DERIVED. GIVEN WITH THE SEED: THE CARDS: each row of YtjnkobalndboiaaDoorRows.lean that lists a variable, with what it lists TIED to the program's text (the seventh form; the later family's looks); each row that meets fmt, with fmt's text TOLD by the authors' own Lean function (tested against real Go, not proved from fmt's source: count such statements apart). THE CARD IS WHAT COUNTS. Prove the row's statement (the work); the ties are given (YtjnkobalndboiaaDoorTie.lean); close each card by the builder's one call (the guide's Derived/Test/ToyasCard.lean, 'card_holds'). Laid BY PROGRAM, IN A SANDBOX (cutbox-door.mjs). By AI agents, Wed Nov 11 2026. No macro, syntax, notation, axiom, sorry.
-/
import Derived.Test.YtjnkobalndboiaaDoorRows
import GoSem.ClaimSeven
namespace Go.Proofs.YtjnkobalndboiaaDoor
namespace Rows

/-- THE TIED CARD OF 'laws.FnExactClayScan'. -/
def fnExactClayScanCard : Claim7 := { stood := { row := fnExactClayScanRow, standIns := [], harness := (true, "436ff49d94ace14480c10740daf5ea5910f0d33f6d13e161aba4e0d3eca621c8"), looks := true }, kinds := [], alts := [], laidByText := true, laidKinds := [.data, .data, .data, .sentinel, .sentinel, .data], laidTests := true, laidLooks := .later }
def FnExactClayScanCardSaid : Prop := Claim7.holds Tryd.pinned (.plain (OpenSpec.ofChange fnExactClayScanSpec)) fnExactClayScanCard

/-- THE SECOND FORM's CARD OF 'laws.FnExactClayScan'. -/
def fnExactClayScanUptoCard : Claim7 := { stood := { row := fnExactClayScanUptoRow, standIns := [], harness := (true, "436ff49d94ace14480c10740daf5ea5910f0d33f6d13e161aba4e0d3eca621c8"), looks := true }, kinds := [], alts := [], laidByText := true, laidKinds := [.data, .data, .data, .sentinel, .sentinel, .data], laidTests := true, laidLooks := .later }
def FnExactClayScanUptoCardSaid : Prop := Claim7.holds Tryd.pinned (.plain (OpenSpec.upto fnExactClayScanSpec)) fnExactClayScanUptoCard
end Rows
end Go.Proofs.YtjnkobalndboiaaDoor
