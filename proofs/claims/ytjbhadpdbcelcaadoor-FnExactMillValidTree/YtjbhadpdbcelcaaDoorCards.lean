/-
  DERIVED. GIVEN WITH THE SEED: THE CARDS: each row of YtjbhadpdbcelcaaDoorRows.lean that lists a variable, with what it lists TIED to the program's text (the seventh form; the later family's looks); each row that meets fmt, with fmt's text TOLD by the authors' own Lean function (tested against real Go, not proved from fmt's source: count such statements apart). THE CARD IS WHAT COUNTS. Prove the row's statement (the work); the ties are given (YtjbhadpdbcelcaaDoorTie.lean); close each card by the builder's one call (the guide's Derived/Test/ToyasCard.lean, 'card_holds'). Laid BY PROGRAM, IN A SANDBOX (cutbox-door.mjs). By AI agents, Wed Nov 11 2026. No macro, syntax, notation, axiom, sorry.
-/
import Derived.Test.YtjbhadpdbcelcaaDoorRows
import GoSem.ClaimSeven
namespace Go.Proofs.YtjbhadpdbcelcaaDoor
namespace Rows

/-- THE TIED CARD OF 'laws.FnExactMillValidTree'. -/
def fnExactMillValidTreeCard : Claim7 := { stood := { row := fnExactMillValidTreeRow, standIns := [], harness := (true, "00289fefab069c6370eb9caac88d3efe3859bb2d8185dd416d2f7d82a2a8e013"), looks := false }, kinds := [], alts := [], laidByText := true, laidKinds := [.data], laidTests := true, laidLooks := .later }
def FnExactMillValidTreeCardSaid : Prop := Claim7.holds Tryd.pinned (.plain (OpenSpec.ofChange fnExactMillValidTreeSpec)) fnExactMillValidTreeCard

/-- THE SECOND FORM's CARD OF 'laws.FnExactMillValidTree'. -/
def fnExactMillValidTreeUptoCard : Claim7 := { stood := { row := fnExactMillValidTreeUptoRow, standIns := [], harness := (true, "00289fefab069c6370eb9caac88d3efe3859bb2d8185dd416d2f7d82a2a8e013"), looks := false }, kinds := [], alts := [], laidByText := true, laidKinds := [.data], laidTests := true, laidLooks := .later }
def FnExactMillValidTreeUptoCardSaid : Prop := Claim7.holds Tryd.pinned (.plain (OpenSpec.upto fnExactMillValidTreeSpec)) fnExactMillValidTreeUptoCard
end Rows
end Go.Proofs.YtjbhadpdbcelcaaDoor
