import Derived.Test.YtpcfhbbialgcfaaPlBuf
/-! What a box answers. -/
namespace Go.Proofs.Ytpcfhbbialgcfaa.P
open Go.RowKit
open Go.Proofs.Ytpcfhbbialgcfaa.R (hid set_other Fl fl0 lt_hp hp_next B1 B2 row_cell row_room SFlR below_drewN)
set_option maxRecDepth 20000
/-- A name in a list. -/
def pieceL (p n : ByteArray) : List UInt8 := if Lib.hasPrefix n.data.toList p.data.toList = true then n.data.toList ++ [10] else []
def lstL (p : ByteArray) (ns : List ByteArray) : List UInt8 := (ns.map (pieceL p)).flatten
theorem take_nextB {l : List ByteArray} {j : Nat} (h : j < l.length) : l.take (j + 1) = l.take j ++ [l.getD j ⟨#[]⟩] := by
  rw [List.take_succ_eq_append_getElem h, List.getD_eq_getElem?_getD, List.getElem?_eq_getElem h]
  rfl
theorem lstL_next {p : ByteArray} {ns : List ByteArray} {j : Nat} (h : j < ns.length) : lstL p (ns.take (j + 1)) = lstL p (ns.take j) ++ pieceL p (ns.getD j ⟨#[]⟩) := by
  unfold lstL
  rw [take_nextB h, List.map_append, List.flatten_append]
  simp
theorem size_toList (n : ByteArray) : n.data.toList.length = n.size := by simp
theorem piece_len (p n : ByteArray) : (pieceL p n).length ≤ n.size + 1 := by
  unfold pieceL
  split
  · rw [List.length_append, size_toList]; exact Nat.le_refl _
  · exact Nat.zero_le _
/-- Names of at most M bytes. -/
theorem lst_len {p : ByteArray} {M : Nat} : ∀ {ns : List ByteArray}, (∀ n ∈ ns, n.size ≤ M) → (lstL p ns).length ≤ ns.length * (M + 1)
  | [], _ => Nat.zero_le _
  | n :: ns, h => by
    have h1 := lst_len (p := p) (ns := ns) fun m hm => h m (List.mem_cons_of_mem _ hm)
    have h2 := piece_len p n
    have h3 := h n List.mem_cons_self
    have e : lstL p (n :: ns) = pieceL p n ++ lstL p ns := rfl
    rw [e, List.length_append, List.length_cons, Nat.add_mul]
    omega
theorem own_cell {W : World} {B : Nat} {ad : Option Addr} {n c : Nat} {l : List ByteArray} (h : W.ownsRow B 9 1 (.slice ad n c) l.length (l.map fun x => Value.string x)) {j : Nat} (hj : j < l.length) : ∃ g, ad = some ⟨g, 0, none⟩ ∧ W.cell? ⟨g, j, none⟩ = some (.string (l.getD j ⟨#[]⟩)) := by
  obtain ⟨_, ⟨hv0, hn0⟩ | ⟨b, cap, cur, hv1, hb, hc, hn, hm, hz, ht⟩⟩ := h
  · omega
  · injection hv1 with e1 _ _
    refine ⟨b, e1, ?_⟩
    rw [Nat.mul_one] at ht
    have e2 : (cur.toList.take l.length)[j]? = (l.map fun x => Value.string x)[j]? := by rw [ht]
    rw [List.getElem?_take_of_lt hj, Array.getElem?_toList, List.getElem?_map, List.getElem?_eq_getElem hj] at e2
    rw [row_cell hc, e2, List.getD_eq_getElem?_getD, List.getElem?_eq_getElem hj]
    rfl
theorem own_len {W : World} {B n c m : Nat} {ad : Option Addr} {xs : List Value} (h : W.ownsRow B 9 1 (.slice ad n c) m xs) : n = m := by
  obtain ⟨_, ⟨hv0, hn0⟩ | ⟨b, cap, cur, hv1, _⟩⟩ := h
  · injection hv0 with _ e _
    omega
  · injection hv1
end Go.Proofs.Ytpcfhbbialgcfaa.P
