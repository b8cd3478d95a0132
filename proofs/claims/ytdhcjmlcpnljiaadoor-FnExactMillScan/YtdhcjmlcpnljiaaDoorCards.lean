/-
  DERIVED. GIVEN WITH THE SEED: THE CARDS: each row of YtdhcjmlcpnljiaaDoorRows.lean that lists a variable, with what it lists TIED to the program's text (the seventh form; the later family's looks); each row that meets fmt, with fmt's text TOLD by the authors' own Lean function (tested against real Go, not proved from fmt's source: count such statements apart). THE CARD IS WHAT COUNTS. Prove the row's statement (the work); the ties are given (YtdhcjmlcpnljiaaDoorTie.lean); close each card by the builder's one call (the guide's Derived/Test/ToyasCard.lean, 'card_holds'). Laid BY PROGRAM, IN A SANDBOX (cutbox-door.mjs). By AI agents, Wed Nov 11 2026. No macro, syntax, notation, axiom, sorry.
-/
import Derived.Test.YtdhcjmlcpnljiaaDoorRows
import GoSem.ClaimSeven
namespace Go.Proofs.YtdhcjmlcpnljiaaDoor
namespace Rows

/-- THE TIED CARD OF 'laws.FnExactMillScan'. -/
def fnExactMillScanCard : Claim7 := { stood := { row := fnExactMillScanRow, standIns := [], harness := (true, "d92345fcb6fdc1f764775dafe77f81d0541bfd2ce3d0b73816678886ad55b7e0"), looks := true }, kinds := [], alts := [], laidByText := true, laidKinds := [.data, .data, .data, .data, .sentinel, .sentinel, .data, .pinned], laidTests := true, laidLooks := .later }
def FnExactMillScanCardSaid : Prop := Claim7.holds Tryd.pinned (.plain (OpenSpec.ofChange fnExactMillScanSpec)) fnExactMillScanCard

/-- THE TIED CARD OF 'laws.FnExactClayScan'. -/
def fnExactClayScanCard : Claim7 := { stood := { row := fnExactClayScanRow, standIns := [], harness := (true, "d92345fcb6fdc1f764775dafe77f81d0541bfd2ce3d0b73816678886ad55b7e0"), looks := true }, kinds := [], alts := [], laidByText := true, laidKinds := [.data, .data, .data, .sentinel, .sentinel, .data], laidTests := true, laidLooks := .later }
def FnExactClayScanCardSaid : Prop := Claim7.holds Tryd.pinned (.plain (OpenSpec.ofChange fnExactClayScanSpec)) fnExactClayScanCard

/-- THE SECOND FORM's CARD OF 'laws.FnExactMillScan'. -/
def fnExactMillScanUptoCard : Claim7 := { stood := { row := fnExactMillScanUptoRow, standIns := [], harness := (true, "d92345fcb6fdc1f764775dafe77f81d0541bfd2ce3d0b73816678886ad55b7e0"), looks := true }, kinds := [], alts := [], laidByText := true, laidKinds := [.data, .data, .data, .data, .sentinel, .sentinel, .data, .pinned], laidTests := true, laidLooks := .later }
def FnExactMillScanUptoCardSaid : Prop := Claim7.holds Tryd.pinned (.plain (OpenSpec.upto fnExactMillScanSpec)) fnExactMillScanUptoCard

/-- THE SECOND FORM's CARD OF 'laws.FnExactClayScan'. -/
def fnExactClayScanUptoCard : Claim7 := { stood := { row := fnExactClayScanUptoRow, standIns := [], harness := (true, "d92345fcb6fdc1f764775dafe77f81d0541bfd2ce3d0b73816678886ad55b7e0"), looks := true }, kinds := [], alts := [], laidByText := true, laidKinds := [.data, .data, .data, .sentinel, .sentinel, .data], laidTests := true, laidLooks := .later }
def FnExactClayScanUptoCardSaid : Prop := Claim7.holds Tryd.pinned (.plain (OpenSpec.upto fnExactClayScanSpec)) fnExactClayScanUptoCard
end Rows
end Go.Proofs.YtdhcjmlcpnljiaaDoor
