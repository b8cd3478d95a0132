import Derived.Test.YtpcfhbbialgcfaaPlMathS
/-! A look that is answered, by the model. -/
namespace Go.Proofs.Ytpcfhbbialgcfaa.P
open Go.RowKit
open Go.Proofs.Ytpcfhbbialgcfaa.J (Says says_t says_f FileOk Says.pos Says.neg)
open Go.Proofs.Ytpcfhbbialgcfaa.R (hid small set_other Fl fl0 lt_hp hp_next B1 B2 row_cell row_room SFlR OkFlS below_drewN below_set)
set_option maxRecDepth 20000
theorem bytes_ne {a b : ByteArray} (h : ¬ a = b) : (a.toList == b.toList) = false := by
  rw [beq_eq_false_iff_ne]
  intro e
  rw [Lib.toList_data, Lib.toList_data] at e
  exact h (ByteArray.ext (Array.toList_inj.1 e))
/-- Where a name lies among files. -/
def AtEnd (l : List Fl) (t : ByteArray) (w : World) (e : Ending) (w' : World) : Prop := ((∃ i : Nat, e = .returned (.int .i64 i) ∧ i < l.length ∧ findF l t = some (l.getD i fl0)) ∨ (e = .returned (.int .i64 (-1)) ∧ findF l t = none)) ∧ Below w.heap.size w w'
theorem prefix_yes {n t : ByteArray} (h : Lib.hasPrefix n.data.toList t.data.toList = true) : t.size ≤ n.size ∧ ((n.extract 0 t.size).toList == t.toList) = true := by
  rw [← Lib.hasPrefix_of_take, ← Lib.size_eq, ← Lib.size_eq, Bool.and_eq_true, decide_eq_true_eq] at h
  refine ⟨h.1, ?_⟩
  rw [Lib.extract_toList, Lib.toList_data]
  simpa using h.2
theorem prefix_no {n t : ByteArray} (h : Lib.hasPrefix n.data.toList t.data.toList = false) (hs : t.size ≤ n.size) : ((n.extract 0 t.size).toList == t.toList) = false := by
  rw [← Lib.hasPrefix_of_take, ← Lib.size_eq, ← Lib.size_eq, decide_eq_true hs, Bool.true_and] at h
  rw [Lib.extract_toList, Lib.toList_data]
  simpa using h
/-- The list so far. -/
def LS (l : List Fl) (t : ByteArray) (j : Nat) (s : ByteArray) : Prop := s.data.toList = lstL t ((nms l).take j) ∧ s.size ≤ j * 61
theorem LS.skip {l : List Fl} {t : ByteArray} {j : Nat} {s : ByteArray} (h : LS l t j s) (hj : j < l.length) (hp : Lib.hasPrefix (l.getD j fl0).name.data.toList t.data.toList = false) : LS l t (j + 1) s := by
  refine ⟨?_, by have := h.2; omega⟩
  rw [lstL_next (by rw [nms_len]; exact hj), nms_get hj]
  unfold pieceL
  rw [if_neg (by rw [hp]; simp), List.append_nil]
  exact h.1
theorem LS.more {l : List Fl} {t : ByteArray} {j : Nat} {s : ByteArray} (h : LS l t j s) (hj : j < l.length) (h60 : (l.getD j fl0).name.size ≤ 60) (hp : Lib.hasPrefix (l.getD j fl0).name.data.toList t.data.toList = true) (u : ByteArray) (hu : u = s ++ (l.getD j fl0).name ++ (⟨#[10]⟩ : ByteArray)) : LS l t (j + 1) u := by
  have hd : u.data.toList = s.data.toList ++ ((l.getD j fl0).name.data.toList ++ [10]) := by rw [hu]; simp
  refine ⟨?_, ?_⟩
  · rw [lstL_next (by rw [nms_len]; exact hj), nms_get hj]
    unfold pieceL
    rw [if_pos hp, hd, h.1]
  · have h1 : u.size = s.size + ((l.getD j fl0).name.size + 1) := by rw [← size_toList u, hd, List.length_append, List.length_append, size_toList, size_toList]; rfl
    have := h.2
    omega
theorem LS.fin {l : List Fl} {t s : ByteArray} (h : LS l t l.length s) : s = ⟨(lstL t (nms l)).toArray⟩ := by
  have h1 := h.1
  rw [← nms_len l, List.take_length] at h1
  apply ByteArray.ext
  rw [← h1]
end Go.Proofs.Ytpcfhbbialgcfaa.P
