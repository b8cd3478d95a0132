import Derived.Test.YtpcfhbbialgcfaaPlI
import Derived.Test.YtpcfhbbialgcfaaRkSzPl
import Derived.Test.YtpcfhbbialgcfaaRkToPl
import Derived.Test.YtpcfhbbialgcfaaRkEqPl
/-! The law of a place that is valid. -/
namespace Go.Proofs.Ytpcfhbbialgcfaa.P
open Go.RowKit
open Go.Proofs.Ytpcfhbbialgcfaa.J (Says says_t says_f FileOk Says.pos Says.neg)
open Go.Proofs.Ytpcfhbbialgcfaa.R (hid small Fl fl0 OkFlS SFlR SFlA row_cell B1)
set_option maxRecDepth 20000
theorem says_val {b c : Bool} {P : Prop} (h : b = true ↔ P) (h' : c = true ↔ P) : b = c := by rw [Bool.eq_iff_iff]; exact h.trans h'.symm
end Go.Proofs.Ytpcfhbbialgcfaa.P
