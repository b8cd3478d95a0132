/-
  DERIVED. GIVEN WITH THE SEED: THE CARDS: each row of YtabbahpalemlhaaGreatDoorRows.lean that lists a variable, with what it lists TIED to the program's text (the seventh form; the later family's looks); each row that meets fmt, with fmt's text TOLD by the authors' own Lean function (tested against real Go, not proved from fmt's source: count such statements apart). THE CARD IS WHAT COUNTS. Prove the row's statement (the work); the ties are given (YtabbahpalemlhaaGreatDoorTie.lean); close each card by the builder's one call (the guide's Derived/Test/ToyasCard.lean, 'card_holds'). Laid BY PROGRAM, IN A SANDBOX (cutbox-door.mjs). By AI agents, Wed Nov 11 2026. No macro, syntax, notation, axiom, sorry.
-/
import Derived.Test.YtabbahpalemlhaaGreatDoorRows
import GoSem.ClaimSeven
namespace Go.Proofs.YtabbahpalemlhaaGreatDoor
namespace Rows

/-- THE TIED CARD OF 'laws.FnClayTokens'. -/
def fnClayTokensCard : Claim7 := { stood := { row := fnClayTokensRow, standIns := [], harness := (true, "a9ededf4843945c305d2e758df24954c4f1d145344308c89dc6262b34048058c"), looks := true }, kinds := [], alts := [], laidByText := true, laidKinds := [.data, .data, .data, .sentinel, .sentinel, .data], laidTests := true, laidLooks := .later }
def FnClayTokensCardSaid : Prop := Claim7.holds Tryz.pinned (.plain (OpenSpec.ofChange fnClayTokensSpec)) fnClayTokensCard

/-- THE SECOND FORM's CARD OF 'laws.FnClayTokens'. -/
def fnClayTokensUptoCard : Claim7 := { stood := { row := fnClayTokensUptoRow, standIns := [], harness := (true, "a9ededf4843945c305d2e758df24954c4f1d145344308c89dc6262b34048058c"), looks := true }, kinds := [], alts := [], laidByText := true, laidKinds := [.data, .data, .data, .sentinel, .sentinel, .data], laidTests := true, laidLooks := .later }
def FnClayTokensUptoCardSaid : Prop := Claim7.holds Tryz.pinned (.plain (OpenSpec.upto fnClayTokensSpec)) fnClayTokensUptoCard
end Rows
end Go.Proofs.YtabbahpalemlhaaGreatDoor
