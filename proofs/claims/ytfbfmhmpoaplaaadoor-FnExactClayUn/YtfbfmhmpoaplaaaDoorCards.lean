/-
  DERIVED. GIVEN WITH THE SEED: THE CARDS: each row of YtfbfmhmpoaplaaaDoorRows.lean that lists a variable, with what it lists TIED to the program's text (the seventh form; the later family's looks); each row that meets fmt, with fmt's text TOLD by the authors' own Lean function (tested against real Go, not proved from fmt's source: count such statements apart). THE CARD IS WHAT COUNTS. Prove the row's statement (the work); the ties are given (YtfbfmhmpoaplaaaDoorTie.lean); close each card by the builder's one call (the guide's Derived/Test/ToyasCard.lean, 'card_holds'). Laid BY PROGRAM, IN A SANDBOX (cutbox-door.mjs). By AI agents, Wed Nov 11 2026. No macro, syntax, notation, axiom, sorry.
-/
import Derived.Test.YtfbfmhmpoaplaaaDoorRows
import GoSem.ClaimSeven
namespace Go.Proofs.YtfbfmhmpoaplaaaDoor
namespace Rows

/-- THE TIED CARD OF 'laws.FnExactClayValidValue'. -/
def fnExactClayValidValueCard : Claim7 := { stood := { row := fnExactClayValidValueRow, standIns := [], harness := (true, "b51e747036b2acda3cefd7db908bfbf7dfc0dc5896aebf9875bccdeffc6b2ff9"), looks := true }, kinds := [], alts := [], laidByText := true, laidKinds := [.data], laidTests := true, laidLooks := .later }
def FnExactClayValidValueCardSaid : Prop := Claim7.holds Tryd.pinned (.plain (OpenSpec.ofChange fnExactClayValidValueSpec)) fnExactClayValidValueCard

/-- THE TIED CARD OF 'laws.FnExactClayOrder'. -/
def fnExactClayOrderCard : Claim7 := { stood := { row := fnExactClayOrderRow, standIns := [], harness := (true, "b51e747036b2acda3cefd7db908bfbf7dfc0dc5896aebf9875bccdeffc6b2ff9"), looks := true }, kinds := [], alts := [], laidByText := true, laidKinds := [.data], laidTests := true, laidLooks := .later }
def FnExactClayOrderCardSaid : Prop := Claim7.holds Tryd.pinned (.plain (OpenSpec.ofChange fnExactClayOrderSpec)) fnExactClayOrderCard

/-- THE TIED CARD OF 'laws.FnExactClayUn'. -/
def fnExactClayUnCard : Claim7 := { stood := { row := fnExactClayUnRow, standIns := [], harness := (true, "b51e747036b2acda3cefd7db908bfbf7dfc0dc5896aebf9875bccdeffc6b2ff9"), looks := true }, kinds := [], alts := [], laidByText := true, laidKinds := [.data], laidTests := true, laidLooks := .later }
def FnExactClayUnCardSaid : Prop := Claim7.holds Tryd.pinned (.plain (OpenSpec.ofChange fnExactClayUnSpec)) fnExactClayUnCard

/-- THE SECOND FORM's CARD OF 'laws.FnExactClayValidValue'. -/
def fnExactClayValidValueUptoCard : Claim7 := { stood := { row := fnExactClayValidValueUptoRow, standIns := [], harness := (true, "b51e747036b2acda3cefd7db908bfbf7dfc0dc5896aebf9875bccdeffc6b2ff9"), looks := true }, kinds := [], alts := [], laidByText := true, laidKinds := [.data], laidTests := true, laidLooks := .later }
def FnExactClayValidValueUptoCardSaid : Prop := Claim7.holds Tryd.pinned (.plain (OpenSpec.upto fnExactClayValidValueSpec)) fnExactClayValidValueUptoCard

/-- THE SECOND FORM's CARD OF 'laws.FnExactClayOrder'. -/
def fnExactClayOrderUptoCard : Claim7 := { stood := { row := fnExactClayOrderUptoRow, standIns := [], harness := (true, "b51e747036b2acda3cefd7db908bfbf7dfc0dc5896aebf9875bccdeffc6b2ff9"), looks := true }, kinds := [], alts := [], laidByText := true, laidKinds := [.data], laidTests := true, laidLooks := .later }
def FnExactClayOrderUptoCardSaid : Prop := Claim7.holds Tryd.pinned (.plain (OpenSpec.upto fnExactClayOrderSpec)) fnExactClayOrderUptoCard

/-- THE SECOND FORM's CARD OF 'laws.FnExactClayUn'. -/
def fnExactClayUnUptoCard : Claim7 := { stood := { row := fnExactClayUnUptoRow, standIns := [], harness := (true, "b51e747036b2acda3cefd7db908bfbf7dfc0dc5896aebf9875bccdeffc6b2ff9"), looks := true }, kinds := [], alts := [], laidByText := true, laidKinds := [.data], laidTests := true, laidLooks := .later }
def FnExactClayUnUptoCardSaid : Prop := Claim7.holds Tryd.pinned (.plain (OpenSpec.upto fnExactClayUnSpec)) fnExactClayUnUptoCard
end Rows
end Go.Proofs.YtfbfmhmpoaplaaaDoor
