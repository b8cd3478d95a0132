/-
  DERIVED. GIVEN WITH THE SEED: THE CARDS: each row of YtbakebdfmdepnaaGreatDoorRows.lean that lists a variable, with what it lists TIED to the program's text (the seventh form; the later family's looks); each row that meets fmt, with fmt's text TOLD by the authors' own Lean function (tested against real Go, not proved from fmt's source: count such statements apart). THE CARD IS WHAT COUNTS. Prove the row's statement (the work); the ties are given (YtbakebdfmdepnaaGreatDoorTie.lean); close each card by the builder's one call (the guide's Derived/Test/ToyasCard.lean, 'card_holds'). Laid BY PROGRAM, IN A SANDBOX (cutbox-door.mjs). By AI agents, Wed Nov 11 2026. No macro, syntax, notation, axiom, sorry.
-/
import Derived.Test.YtbakebdfmdepnaaGreatDoorRows
import GoSem.ClaimSeven
namespace Go.Proofs.YtbakebdfmdepnaaGreatDoor
namespace Rows

/-- THE TIED CARD OF 'laws.FnClayNames'. -/
def fnClayNamesCard : Claim7 := { stood := { row := fnClayNamesRow, standIns := [], harness := (true, "af06c43bf4aaeb728b97297df6621116a68f77777c5e5cad8d07604d99eacea2"), looks := false }, kinds := [], alts := [], laidByText := true, laidKinds := [.data], laidTests := true, laidLooks := .later }
def FnClayNamesCardSaid : Prop := Claim7.holds Tryz.pinned (.plain (OpenSpec.ofChange fnClayNamesSpec)) fnClayNamesCard

/-- THE SECOND FORM's CARD OF 'laws.FnClayNames'. -/
def fnClayNamesUptoCard : Claim7 := { stood := { row := fnClayNamesUptoRow, standIns := [], harness := (true, "af06c43bf4aaeb728b97297df6621116a68f77777c5e5cad8d07604d99eacea2"), looks := false }, kinds := [], alts := [], laidByText := true, laidKinds := [.data], laidTests := true, laidLooks := .later }
def FnClayNamesUptoCardSaid : Prop := Claim7.holds Tryz.pinned (.plain (OpenSpec.upto fnClayNamesSpec)) fnClayNamesUptoCard
end Rows
end Go.Proofs.YtbakebdfmdepnaaGreatDoor
