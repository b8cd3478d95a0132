/-
  DERIVED. GIVEN WITH THE SEED: THE CARDS: each row of YtcjgcipacfcjnaaGreatDoorRows.lean that lists a variable, with what it lists TIED to the program's text (the seventh form; the later family's looks); each row that meets fmt, with fmt's text TOLD by the authors' own Lean function (tested against real Go, not proved from fmt's source: count such statements apart). THE CARD IS WHAT COUNTS. Prove the row's statement (the work); the ties are given (YtcjgcipacfcjnaaGreatDoorTie.lean); close each card by the builder's one call (the guide's Derived/Test/ToyasCard.lean, 'card_holds'). Laid BY PROGRAM, IN A SANDBOX (cutbox-door.mjs). By AI agents, Wed Nov 11 2026. No macro, syntax, notation, axiom, sorry.
-/
import Derived.Test.YtcjgcipacfcjnaaGreatDoorRows
import GoSem.ClaimSeven
namespace Go.Proofs.YtcjgcipacfcjnaaGreatDoor
namespace Rows

/-- THE TIED CARD OF 'laws.FnExactMillWriteCode'. -/
def fnExactMillWriteCodeCard : Claim7 := { stood := { row := fnExactMillWriteCodeRow, standIns := [], harness := (true, "1729de791b9b6c3b9e66acfd1480bd40ef269b8a94ef21e0540e07126ad91711"), looks := true }, kinds := [], alts := [], laidByText := true, laidKinds := [.widerDeep, .data], laidTests := true, laidLooks := .later }
def FnExactMillWriteCodeCardSaid : Prop := Claim7.holds Tryz.pinned (.plain (OpenSpec.ofChange fnExactMillWriteCodeSpec)) fnExactMillWriteCodeCard

/-- THE TIED CARD OF 'laws.FnExactMillReadCode'. -/
def fnExactMillReadCodeCard : Claim7 := { stood := { row := fnExactMillReadCodeRow, standIns := [], harness := (true, "1729de791b9b6c3b9e66acfd1480bd40ef269b8a94ef21e0540e07126ad91711"), looks := true }, kinds := [], alts := [], laidByText := true, laidKinds := [.handle, .widerDeep, .sentinel, .sentinel, .sentinel, .sentinel, .data], laidTests := true, laidLooks := .later }
def FnExactMillReadCodeCardSaid : Prop := Claim7.holds Tryz.pinned (.plain (OpenSpec.ofChange fnExactMillReadCodeSpec)) fnExactMillReadCodeCard

/-- THE SECOND FORM's CARD OF 'laws.FnExactMillWriteCode'. -/
def fnExactMillWriteCodeUptoCard : Claim7 := { stood := { row := fnExactMillWriteCodeUptoRow, standIns := [], harness := (true, "1729de791b9b6c3b9e66acfd1480bd40ef269b8a94ef21e0540e07126ad91711"), looks := true }, kinds := [], alts := [], laidByText := true, laidKinds := [.widerDeep, .data], laidTests := true, laidLooks := .later }
def FnExactMillWriteCodeUptoCardSaid : Prop := Claim7.holds Tryz.pinned (.plain (OpenSpec.upto fnExactMillWriteCodeSpec)) fnExactMillWriteCodeUptoCard

/-- THE SECOND FORM's CARD OF 'laws.FnExactMillReadCode'. -/
def fnExactMillReadCodeUptoCard : Claim7 := { stood := { row := fnExactMillReadCodeUptoRow, standIns := [], harness := (true, "1729de791b9b6c3b9e66acfd1480bd40ef269b8a94ef21e0540e07126ad91711"), looks := true }, kinds := [], alts := [], laidByText := true, laidKinds := [.handle, .widerDeep, .sentinel, .sentinel, .sentinel, .sentinel, .data], laidTests := true, laidLooks := .later }
def FnExactMillReadCodeUptoCardSaid : Prop := Claim7.holds Tryz.pinned (.plain (OpenSpec.upto fnExactMillReadCodeSpec)) fnExactMillReadCodeUptoCard
end Rows
end Go.Proofs.YtcjgcipacfcjnaaGreatDoor
