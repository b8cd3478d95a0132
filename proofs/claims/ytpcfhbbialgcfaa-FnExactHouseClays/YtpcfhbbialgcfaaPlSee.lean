import Derived.Test.YtpcfhbbialgcfaaPlList
/-! What a look is answered in a box. -/
namespace Go.Proofs.Ytpcfhbbialgcfaa.P
open Go.RowKit
open Go.Proofs.Ytpcfhbbialgcfaa.R (hid set_other Fl fl0 lt_hp hp_next B1 B2 row_cell row_room SFlR below_drewN below_set)
set_option maxRecDepth 20000
def emp : ByteArray := ⟨#[]⟩
def seeR (ns : List ByteArray) (f : ByteArray → Option Fl) (kind : Int) (t : ByteArray) : Int × ByteArray :=
  if kind = 3 then (0, ⟨(lstL t ns).toArray⟩) else if ¬ kind = 1 ∧ ¬ kind = 2 then (5, emp) else
    match f t with
    | none => (4, emp)
    | some x => if kind = 2 then (0, emp) else (0, x.text)
def SeeEnd (r : Int × ByteArray) (w : World) (e : Ending) (w' : World) : Prop := e = .returned (.agg #[.int .i64 r.1, .string r.2]) ∧ Below w.heap.size w w'
end Go.Proofs.Ytpcfhbbialgcfaa.P
