/-
  DERIVED. GIVEN WITH THE SEED: THE CARDS: each row of YtfedmbadhcdpdaaGreatDoorRows.lean that lists a variable, with what it lists TIED to the program's text (the seventh form; the later family's looks); each row that meets fmt, with fmt's text TOLD by the authors' own Lean function (tested against real Go, not proved from fmt's source: count such statements apart). THE CARD IS WHAT COUNTS. Prove the row's statement (the work); the ties are given (YtfedmbadhcdpdaaGreatDoorTie.lean); close each card by the builder's one call (the guide's Derived/Test/ToyasCard.lean, 'card_holds'). Laid BY PROGRAM, IN A SANDBOX (cutbox-door.mjs). By AI agents, Wed Nov 11 2026. No macro, syntax, notation, axiom, sorry.
-/
import Derived.Test.YtfedmbadhcdpdaaGreatDoorRows
import GoSem.ClaimSeven
namespace Go.Proofs.YtfedmbadhcdpdaaGreatDoor
namespace Rows

/-- THE TIED CARD OF 'laws.FnExactMillCheckCode'. -/
def fnExactMillCheckCodeCard : Claim7 := { stood := { row := fnExactMillCheckCodeRow, standIns := [], harness := (true, "6a6dc703e6e8f2b35ce3fc493df83f8e4a74cd45677b6c77225cad589b42580d"), looks := true }, kinds := [], alts := [], laidByText := true, laidKinds := [.handle, .widerDeep, .data], laidTests := true, laidLooks := .later }
def FnExactMillCheckCodeCardSaid : Prop := Claim7.holds Tryz.pinned (.plain (OpenSpec.ofChange fnExactMillCheckCodeSpec)) fnExactMillCheckCodeCard

/-- THE TIED CARD OF 'laws.FnExactMillShapes'. -/
def fnExactMillShapesCard : Claim7 := { stood := { row := fnExactMillShapesRow, standIns := [], harness := (true, "6a6dc703e6e8f2b35ce3fc493df83f8e4a74cd45677b6c77225cad589b42580d"), looks := true }, kinds := [], alts := [], laidByText := true, laidKinds := [.widerDeep, .data], laidTests := true, laidLooks := .later }
def FnExactMillShapesCardSaid : Prop := Claim7.holds Tryz.pinned (.plain (OpenSpec.ofChange fnExactMillShapesSpec)) fnExactMillShapesCard

/-- THE SECOND FORM's CARD OF 'laws.FnExactMillCheckCode'. -/
def fnExactMillCheckCodeUptoCard : Claim7 := { stood := { row := fnExactMillCheckCodeUptoRow, standIns := [], harness := (true, "6a6dc703e6e8f2b35ce3fc493df83f8e4a74cd45677b6c77225cad589b42580d"), looks := true }, kinds := [], alts := [], laidByText := true, laidKinds := [.handle, .widerDeep, .data], laidTests := true, laidLooks := .later }
def FnExactMillCheckCodeUptoCardSaid : Prop := Claim7.holds Tryz.pinned (.plain (OpenSpec.upto fnExactMillCheckCodeSpec)) fnExactMillCheckCodeUptoCard

/-- THE SECOND FORM's CARD OF 'laws.FnExactMillShapes'. -/
def fnExactMillShapesUptoCard : Claim7 := { stood := { row := fnExactMillShapesUptoRow, standIns := [], harness := (true, "6a6dc703e6e8f2b35ce3fc493df83f8e4a74cd45677b6c77225cad589b42580d"), looks := true }, kinds := [], alts := [], laidByText := true, laidKinds := [.widerDeep, .data], laidTests := true, laidLooks := .later }
def FnExactMillShapesUptoCardSaid : Prop := Claim7.holds Tryz.pinned (.plain (OpenSpec.upto fnExactMillShapesSpec)) fnExactMillShapesUptoCard
end Rows
end Go.Proofs.YtfedmbadhcdpdaaGreatDoor
