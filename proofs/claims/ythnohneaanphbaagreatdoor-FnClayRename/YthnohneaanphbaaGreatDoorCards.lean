/-
  DERIVED. GIVEN WITH THE SEED: THE CARDS: each row of YthnohneaanphbaaGreatDoorRows.lean that lists a variable, with what it lists TIED to the program's text (the seventh form; the later family's looks); each row that meets fmt, with fmt's text TOLD by the authors' own Lean function (tested against real Go, not proved from fmt's source: count such statements apart). THE CARD IS WHAT COUNTS. Prove the row's statement (the work); the ties are given (YthnohneaanphbaaGreatDoorTie.lean); close each card by the builder's one call (the guide's Derived/Test/ToyasCard.lean, 'card_holds'). Laid BY PROGRAM, IN A SANDBOX (cutbox-door.mjs). By AI agents, Wed Nov 11 2026. No macro, syntax, notation, axiom, sorry.
-/
import Derived.Test.YthnohneaanphbaaGreatDoorRows
import GoSem.ClaimSeven
namespace Go.Proofs.YthnohneaanphbaaGreatDoor
namespace Rows

/-- THE TIED CARD OF 'laws.FnClayRename'. -/
def fnClayRenameCard : Claim7 := { stood := { row := fnClayRenameRow, standIns := [], harness := (true, "467d1086aeada52690f2eb3a852a0bc2d26fb370da2a0e7cbd5ba760747cf7c3"), looks := false }, kinds := [], alts := [], laidByText := true, laidKinds := [.data], laidTests := true, laidLooks := .later }
def FnClayRenameCardSaid : Prop := Claim7.holds Tryz.pinned (.plain (OpenSpec.ofChange fnClayRenameSpec)) fnClayRenameCard

/-- THE SECOND FORM's CARD OF 'laws.FnClayRename'. -/
def fnClayRenameUptoCard : Claim7 := { stood := { row := fnClayRenameUptoRow, standIns := [], harness := (true, "467d1086aeada52690f2eb3a852a0bc2d26fb370da2a0e7cbd5ba760747cf7c3"), looks := false }, kinds := [], alts := [], laidByText := true, laidKinds := [.data], laidTests := true, laidLooks := .later }
def FnClayRenameUptoCardSaid : Prop := Claim7.holds Tryz.pinned (.plain (OpenSpec.upto fnClayRenameSpec)) fnClayRenameUptoCard
end Rows
end Go.Proofs.YthnohneaanphbaaGreatDoor
