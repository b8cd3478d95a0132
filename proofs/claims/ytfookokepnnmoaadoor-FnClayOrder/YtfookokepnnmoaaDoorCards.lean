/-
  DERIVED. GIVEN WITH THE SEED: THE CARDS: each row of YtfookokepnnmoaaDoorRows.lean that lists a variable, with what it lists TIED to the program's text (the seventh form; the later family's looks); each row that meets fmt, with fmt's text TOLD by the authors' own Lean function (tested against real Go, not proved from fmt's source: count such statements apart). THE CARD IS WHAT COUNTS. Prove the row's statement (the work); the ties are given (YtfookokepnnmoaaDoorTie.lean); close each card by the builder's one call (the guide's Derived/Test/ToyasCard.lean, 'card_holds'). Laid BY PROGRAM, IN A SANDBOX (cutbox-door.mjs). By AI agents, Wed Nov 11 2026. No macro, syntax, notation, axiom, sorry.
-/
import Derived.Test.YtfookokepnnmoaaDoorRows
import GoSem.ClaimSeven
namespace Go.Proofs.YtfookokepnnmoaaDoor
namespace Rows

/-- THE TIED CARD OF 'laws.FnClayOrder'. -/
def fnClayOrderCard : Claim7 := { stood := { row := fnClayOrderRow, standIns := [], harness := (true, "47eb25e6c0d199d382798839110257f1693385d7ad15391dc522b6b9ecff1875"), looks := true }, kinds := [], alts := [], laidByText := true, laidKinds := [.data], laidTests := true, laidLooks := .later }
def FnClayOrderCardSaid : Prop := Claim7.holds Tryd.pinned (.plain (OpenSpec.ofChange fnClayOrderSpec)) fnClayOrderCard

/-- THE TIED CARD OF 'laws.FnExactClayValidValue'. -/
def fnExactClayValidValueCard : Claim7 := { stood := { row := fnExactClayValidValueRow, standIns := [], harness := (true, "47eb25e6c0d199d382798839110257f1693385d7ad15391dc522b6b9ecff1875"), looks := true }, kinds := [], alts := [], laidByText := true, laidKinds := [.data], laidTests := true, laidLooks := .later }
def FnExactClayValidValueCardSaid : Prop := Claim7.holds Tryd.pinned (.plain (OpenSpec.ofChange fnExactClayValidValueSpec)) fnExactClayValidValueCard

/-- THE TIED CARD OF 'laws.FnExactClayOrder'. -/
def fnExactClayOrderCard : Claim7 := { stood := { row := fnExactClayOrderRow, standIns := [], harness := (true, "47eb25e6c0d199d382798839110257f1693385d7ad15391dc522b6b9ecff1875"), looks := true }, kinds := [], alts := [], laidByText := true, laidKinds := [.data], laidTests := true, laidLooks := .later }
def FnExactClayOrderCardSaid : Prop := Claim7.holds Tryd.pinned (.plain (OpenSpec.ofChange fnExactClayOrderSpec)) fnExactClayOrderCard

/-- THE SECOND FORM's CARD OF 'laws.FnClayOrder'. -/
def fnClayOrderUptoCard : Claim7 := { stood := { row := fnClayOrderUptoRow, standIns := [], harness := (true, "47eb25e6c0d199d382798839110257f1693385d7ad15391dc522b6b9ecff1875"), looks := true }, kinds := [], alts := [], laidByText := true, laidKinds := [.data], laidTests := true, laidLooks := .later }
def FnClayOrderUptoCardSaid : Prop := Claim7.holds Tryd.pinned (.plain (OpenSpec.upto fnClayOrderSpec)) fnClayOrderUptoCard

/-- THE SECOND FORM's CARD OF 'laws.FnExactClayValidValue'. -/
def fnExactClayValidValueUptoCard : Claim7 := { stood := { row := fnExactClayValidValueUptoRow, standIns := [], harness := (true, "47eb25e6c0d199d382798839110257f1693385d7ad15391dc522b6b9ecff1875"), looks := true }, kinds := [], alts := [], laidByText := true, laidKinds := [.data], laidTests := true, laidLooks := .later }
def FnExactClayValidValueUptoCardSaid : Prop := Claim7.holds Tryd.pinned (.plain (OpenSpec.upto fnExactClayValidValueSpec)) fnExactClayValidValueUptoCard

/-- THE SECOND FORM's CARD OF 'laws.FnExactClayOrder'. -/
def fnExactClayOrderUptoCard : Claim7 := { stood := { row := fnExactClayOrderUptoRow, standIns := [], harness := (true, "47eb25e6c0d199d382798839110257f1693385d7ad15391dc522b6b9ecff1875"), looks := true }, kinds := [], alts := [], laidByText := true, laidKinds := [.data], laidTests := true, laidLooks := .later }
def FnExactClayOrderUptoCardSaid : Prop := Claim7.holds Tryd.pinned (.plain (OpenSpec.upto fnExactClayOrderSpec)) fnExactClayOrderUptoCard
end Rows
end Go.Proofs.YtfookokepnnmoaaDoor
