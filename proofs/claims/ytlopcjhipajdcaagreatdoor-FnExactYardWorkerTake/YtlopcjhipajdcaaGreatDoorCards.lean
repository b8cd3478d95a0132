/-
  DERIVED. GIVEN WITH THE SEED: THE CARDS: each row of YtlopcjhipajdcaaGreatDoorRows.lean that lists a variable, with what it lists TIED to the program's text (the seventh form; the later family's looks); each row that meets fmt, with fmt's text TOLD by the authors' own Lean function (tested against real Go, not proved from fmt's source: count such statements apart). THE CARD IS WHAT COUNTS. Prove the row's statement (the work); the ties are given (YtlopcjhipajdcaaGreatDoorTie.lean); close each card by the builder's one call (the guide's Derived/Test/ToyasCard.lean, 'card_holds'). Laid BY PROGRAM, IN A SANDBOX (cutbox-door.mjs). By AI agents, Wed Nov 11 2026. No macro, syntax, notation, axiom, sorry.
-/
import Derived.Test.YtlopcjhipajdcaaGreatDoorRows
import GoSem.ClaimSeven
namespace Go.Proofs.YtlopcjhipajdcaaGreatDoor
namespace Rows

/-- THE TIED CARD OF 'laws.FnExactYardValidWorker'. -/
def fnExactYardValidWorkerCard : Claim7 := { stood := { row := fnExactYardValidWorkerRow, standIns := [], harness := (true, "87fd6a28a975e58b7811fa4b249bc5d6cb26a1616cb087cfd7be0a1d1245bf6b"), looks := true }, kinds := [], alts := [], laidByText := true, laidKinds := [.sentinel, .sentinel, .sentinel, .sentinel], laidTests := true, laidLooks := .later }
def FnExactYardValidWorkerCardSaid : Prop := Claim7.holds Tryz.pinned (.plain (OpenSpec.ofChange fnExactYardValidWorkerSpec)) fnExactYardValidWorkerCard

/-- THE TIED CARD OF 'laws.FnExactYardWorkerTake'. -/
def fnExactYardWorkerTakeCard : Claim7 := { stood := { row := fnExactYardWorkerTakeRow, standIns := [], harness := (true, "87fd6a28a975e58b7811fa4b249bc5d6cb26a1616cb087cfd7be0a1d1245bf6b"), looks := true }, kinds := [], alts := [], laidByText := true, laidKinds := [.sentinel, .sentinel, .sentinel, .sentinel], laidTests := true, laidLooks := .later }
def FnExactYardWorkerTakeCardSaid : Prop := Claim7.holds Tryz.pinned (.plain (OpenSpec.ofChange fnExactYardWorkerTakeSpec)) fnExactYardWorkerTakeCard

/-- THE SECOND FORM's CARD OF 'laws.FnExactYardValidWorker'. -/
def fnExactYardValidWorkerUptoCard : Claim7 := { stood := { row := fnExactYardValidWorkerUptoRow, standIns := [], harness := (true, "87fd6a28a975e58b7811fa4b249bc5d6cb26a1616cb087cfd7be0a1d1245bf6b"), looks := true }, kinds := [], alts := [], laidByText := true, laidKinds := [.sentinel, .sentinel, .sentinel, .sentinel], laidTests := true, laidLooks := .later }
def FnExactYardValidWorkerUptoCardSaid : Prop := Claim7.holds Tryz.pinned (.plain (OpenSpec.upto fnExactYardValidWorkerSpec)) fnExactYardValidWorkerUptoCard

/-- THE SECOND FORM's CARD OF 'laws.FnExactYardWorkerTake'. -/
def fnExactYardWorkerTakeUptoCard : Claim7 := { stood := { row := fnExactYardWorkerTakeUptoRow, standIns := [], harness := (true, "87fd6a28a975e58b7811fa4b249bc5d6cb26a1616cb087cfd7be0a1d1245bf6b"), looks := true }, kinds := [], alts := [], laidByText := true, laidKinds := [.sentinel, .sentinel, .sentinel, .sentinel], laidTests := true, laidLooks := .later }
def FnExactYardWorkerTakeUptoCardSaid : Prop := Claim7.holds Tryz.pinned (.plain (OpenSpec.upto fnExactYardWorkerTakeSpec)) fnExactYardWorkerTakeUptoCard
end Rows
end Go.Proofs.YtlopcjhipajdcaaGreatDoor
