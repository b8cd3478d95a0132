/-
  DERIVED. GIVEN WITH THE SEED: THE CARDS: each row of YtpobfklbbkdglaaDoorRows.lean that lists a variable, with what it lists TIED to the program's text (the seventh form; the later family's looks); each row that meets fmt, with fmt's text TOLD by the authors' own Lean function (tested against real Go, not proved from fmt's source: count such statements apart). THE CARD IS WHAT COUNTS. Prove the row's statement (the work); the ties are given (YtpobfklbbkdglaaDoorTie.lean); close each card by the builder's one call (the guide's Derived/Test/ToyasCard.lean, 'card_holds'). Laid BY PROGRAM, IN A SANDBOX (cutbox-door.mjs). By AI agents, Wed Nov 11 2026. No macro, syntax, notation, axiom, sorry.
-/
import Derived.Test.YtpobfklbbkdglaaDoorRows
import GoSem.ClaimSeven
namespace Go.Proofs.YtpobfklbbkdglaaDoor
namespace Rows

/-- THE TIED CARD OF 'laws.FnExactClayCheck'. -/
def fnExactClayCheckCard : Claim7 := { stood := { row := fnExactClayCheckRow, standIns := [], harness := (true, "46930ef05a142904fe248b2c6f9e7ee925f7e3932c6b8afb5a6ace0c9bc2d498"), looks := false }, kinds := [], alts := [], laidByText := true, laidKinds := [.data], laidTests := true, laidLooks := .later }
def FnExactClayCheckCardSaid : Prop := Claim7.holds Tryd.pinned (.plain (OpenSpec.ofChange fnExactClayCheckSpec)) fnExactClayCheckCard

/-- THE TIED CARD OF 'laws.FnExactClayBinds'. -/
def fnExactClayBindsCard : Claim7 := { stood := { row := fnExactClayBindsRow, standIns := [], harness := (true, "46930ef05a142904fe248b2c6f9e7ee925f7e3932c6b8afb5a6ace0c9bc2d498"), looks := false }, kinds := [], alts := [], laidByText := true, laidKinds := [.data], laidTests := true, laidLooks := .later }
def FnExactClayBindsCardSaid : Prop := Claim7.holds Tryd.pinned (.plain (OpenSpec.ofChange fnExactClayBindsSpec)) fnExactClayBindsCard

/-- THE TIED CARD OF 'laws.FnExactClayRename'. -/
def fnExactClayRenameCard : Claim7 := { stood := { row := fnExactClayRenameRow, standIns := [], harness := (true, "46930ef05a142904fe248b2c6f9e7ee925f7e3932c6b8afb5a6ace0c9bc2d498"), looks := false }, kinds := [], alts := [], laidByText := true, laidKinds := [.data], laidTests := true, laidLooks := .later }
def FnExactClayRenameCardSaid : Prop := Claim7.holds Tryd.pinned (.plain (OpenSpec.ofChange fnExactClayRenameSpec)) fnExactClayRenameCard

/-- THE TIED CARD OF 'laws.FnExactClayLocals'. -/
def fnExactClayLocalsCard : Claim7 := { stood := { row := fnExactClayLocalsRow, standIns := [], harness := (true, "46930ef05a142904fe248b2c6f9e7ee925f7e3932c6b8afb5a6ace0c9bc2d498"), looks := false }, kinds := [], alts := [], laidByText := true, laidKinds := [.data], laidTests := true, laidLooks := .later }
def FnExactClayLocalsCardSaid : Prop := Claim7.holds Tryd.pinned (.plain (OpenSpec.ofChange fnExactClayLocalsSpec)) fnExactClayLocalsCard

/-- THE SECOND FORM's CARD OF 'laws.FnExactClayCheck'. -/
def fnExactClayCheckUptoCard : Claim7 := { stood := { row := fnExactClayCheckUptoRow, standIns := [], harness := (true, "46930ef05a142904fe248b2c6f9e7ee925f7e3932c6b8afb5a6ace0c9bc2d498"), looks := false }, kinds := [], alts := [], laidByText := true, laidKinds := [.data], laidTests := true, laidLooks := .later }
def FnExactClayCheckUptoCardSaid : Prop := Claim7.holds Tryd.pinned (.plain (OpenSpec.upto fnExactClayCheckSpec)) fnExactClayCheckUptoCard

/-- THE SECOND FORM's CARD OF 'laws.FnExactClayBinds'. -/
def fnExactClayBindsUptoCard : Claim7 := { stood := { row := fnExactClayBindsUptoRow, standIns := [], harness := (true, "46930ef05a142904fe248b2c6f9e7ee925f7e3932c6b8afb5a6ace0c9bc2d498"), looks := false }, kinds := [], alts := [], laidByText := true, laidKinds := [.data], laidTests := true, laidLooks := .later }
def FnExactClayBindsUptoCardSaid : Prop := Claim7.holds Tryd.pinned (.plain (OpenSpec.upto fnExactClayBindsSpec)) fnExactClayBindsUptoCard

/-- THE SECOND FORM's CARD OF 'laws.FnExactClayRename'. -/
def fnExactClayRenameUptoCard : Claim7 := { stood := { row := fnExactClayRenameUptoRow, standIns := [], harness := (true, "46930ef05a142904fe248b2c6f9e7ee925f7e3932c6b8afb5a6ace0c9bc2d498"), looks := false }, kinds := [], alts := [], laidByText := true, laidKinds := [.data], laidTests := true, laidLooks := .later }
def FnExactClayRenameUptoCardSaid : Prop := Claim7.holds Tryd.pinned (.plain (OpenSpec.upto fnExactClayRenameSpec)) fnExactClayRenameUptoCard

/-- THE SECOND FORM's CARD OF 'laws.FnExactClayLocals'. -/
def fnExactClayLocalsUptoCard : Claim7 := { stood := { row := fnExactClayLocalsUptoRow, standIns := [], harness := (true, "46930ef05a142904fe248b2c6f9e7ee925f7e3932c6b8afb5a6ace0c9bc2d498"), looks := false }, kinds := [], alts := [], laidByText := true, laidKinds := [.data], laidTests := true, laidLooks := .later }
def FnExactClayLocalsUptoCardSaid : Prop := Claim7.holds Tryd.pinned (.plain (OpenSpec.upto fnExactClayLocalsSpec)) fnExactClayLocalsUptoCard
end Rows
end Go.Proofs.YtpobfklbbkdglaaDoor
