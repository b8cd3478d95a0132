import Derived.Test.YtpcfhbbialgcfaaPlSee
/-! A look that is answered, by the program. -/
namespace Go.Proofs.Ytpcfhbbialgcfaa.P
open Go.RowKit
open Go.Proofs.Ytpcfhbbialgcfaa.J (Says says_t says_f FileOk Says.pos Says.neg)
open Go.Proofs.Ytpcfhbbialgcfaa.R (hid set_other Fl fl0 lt_hp hp_next B1 B2 row_cell row_room SFlR below_drewN below_set)
set_option maxRecDepth 20000
/-- What See answers. -/
def seeP (l : List Fl) (kind : Int) (t : ByteArray) : Int × ByteArray := seeR (layN [] l) (layF (fun _ => none) l) kind t
theorem lay_sizes {M : Nat} : ∀ (l : List Fl) (ns : List ByteArray), (∀ n ∈ ns, n.size ≤ M) → (∀ x ∈ l, x.name.size ≤ M) → ∀ n ∈ layN ns l, n.size ≤ M
  | [], ns, h, _ => h
  | x :: l, ns, h, h2 => by
    refine lay_sizes l (putN ns x.name) (fun n hn => ?_) (fun y hy => h2 y (List.mem_cons_of_mem _ hy))
    unfold putN at hn
    split at hn
    · exact h n hn
    · unfold insAt at hn
      rcases List.mem_append.1 hn with h9 | h9
      · exact h n (List.mem_of_mem_take h9)
      · rcases List.mem_cons.1 h9 with h8 | h8
        · rw [h8]; exact h2 x List.mem_cons_self
        · exact h n (List.mem_of_mem_drop h8)
theorem layF_mem : ∀ (l : List Fl) (f : ByteArray → Option Fl) (t : ByteArray) (x : Fl), layF f l t = some x → f t = some x ∨ x ∈ l
  | [], f, t, x, h => .inl h
  | y :: l, f, t, x, h => by
    rcases layF_mem l (setF f y) t x h with h1 | h1
    · unfold setF at h1
      split at h1
      · injection h1 with h1; exact .inr (by rw [← h1]; exact List.mem_cons_self)
      · exact .inl h1
    · exact .inr (List.mem_cons_of_mem _ h1)
theorem mem_low {l : List Fl} (h : LowF l) : ∀ x ∈ l, x.name.size ≤ 1048576 ∧ x.text.size ≤ 1048576 := fun x hx => by
  obtain ⟨i, hi, he⟩ := List.getElem_of_mem hx
  have := h.2 i hi
  rw [List.getD_eq_getElem?_getD, List.getElem?_eq_getElem hi] at this
  rw [← he]
  exact this
/-- What See answers is no longer than a text may be. -/
theorem seeP_size {l : List Fl} {kind : Int} {t : ByteArray} (h : LowF l) (h40 : PlOk l) : (seeP l kind t).2.size ≤ 1048576 := by
  unfold seeP seeR
  split
  · show (⟨(lstL t (layN [] l)).toArray⟩ : ByteArray).size ≤ _
    have h60 : ∀ n ∈ layN [] l, n.size ≤ 60 := lay_sizes l [] (fun n hn => by cases hn) (fun x hx => by
      obtain ⟨i, hi, he⟩ := List.getElem_of_mem hx
      have := (h40.2 i hi).1.1.2.1
      rw [List.getD_eq_getElem?_getD, List.getElem?_eq_getElem hi] at this
      rw [← he]
      exact this)
    have h1 := lst_len (p := t) h60
    have h2 := layN_len l []
    have h3 : (layN [] l).length ≤ 40 := by have := h40.1; simp at h2; omega
    have h4 := Nat.mul_le_mul_right (60 + 1) h3
    have h5 : (⟨(lstL t (layN [] l)).toArray⟩ : ByteArray).size = (lstL t (layN [] l)).length := by rw [← size_toList]
    omega
  · split
    · exact Nat.zero_le _
    · split
      · exact Nat.zero_le _
      · rename_i x hx
        split
        · exact Nat.zero_le _
        · rcases layF_mem l _ t x hx with h1 | h1
          · cases h1
          · exact (mem_low h x h1).2
end Go.Proofs.Ytpcfhbbialgcfaa.P
