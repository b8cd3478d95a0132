import Derived.Test.YtpcfhbbialgcfaaPlLay
import Derived.Carry
/-! The box of a place. -/
namespace Go.Proofs.Ytpcfhbbialgcfaa.P
open Go.RowKit
open Go.Proofs.Ytpcfhbbialgcfaa.R (hid set_other Fl fl0 lt_hp hp_next B1 row_cell SFlR)
set_option maxRecDepth 20000
/-- The names of files laid one after the other. -/
def layN (ns : List ByteArray) (l : List Fl) : List ByteArray := l.foldl (fun ns x => putN ns x.name) ns
def layF (f : ByteArray → Option Fl) (l : List Fl) : ByteArray → Option Fl := l.foldl setF f
theorem take_next {l : List Fl} {j : Nat} (h : j < l.length) : l.take (j + 1) = l.take j ++ [l.getD j fl0] := by
  rw [List.take_succ_eq_append_getElem h, List.getD_eq_getElem?_getD, List.getElem?_eq_getElem h]
  rfl
theorem layN_next {ns : List ByteArray} {l : List Fl} {j : Nat} (h : j < l.length) : layN ns (l.take (j + 1)) = putN (layN ns (l.take j)) (l.getD j fl0).name := by
  unfold layN
  rw [take_next h, List.foldl_append]
  rfl
theorem layF_next {f : ByteArray → Option Fl} {l : List Fl} {j : Nat} (h : j < l.length) : layF f (l.take (j + 1)) = setF (layF f (l.take j)) (l.getD j fl0) := by
  unfold layF
  rw [take_next h, List.foldl_append]
  rfl
theorem putN_len (ns : List ByteArray) (t : ByteArray) : (putN ns t).length ≤ ns.length + 1 := by
  unfold putN
  split
  · omega
  · rw [insAt_length (atN_le ns t)]; exact Nat.le_refl _
theorem layN_len (l : List Fl) : ∀ ns : List ByteArray, (layN ns l).length ≤ ns.length + l.length := by
  induction l with
  | nil => intro ns; exact Nat.le_refl _
  | cons x l ih =>
    intro ns
    have h1 := ih (putN ns x.name)
    have h2 := putN_len ns x.name
    show (layN (putN ns x.name) l).length ≤ _
    simp only [List.length_cons]
    omega
end Go.Proofs.Ytpcfhbbialgcfaa.P
