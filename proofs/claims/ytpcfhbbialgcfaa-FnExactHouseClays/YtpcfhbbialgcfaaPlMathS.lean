import Derived.Test.YtpcfhbbialgcfaaPlSeeI
import Derived.Sort.Walk0
/-! Places in order: what the box of one holds. -/
namespace Go.Proofs.Ytpcfhbbialgcfaa.P
open Go.RowKit
open Go.Proofs.Ytpcfhbbialgcfaa.R (Fl fl0)
set_option maxRecDepth 20000
def nms (l : List Fl) : List ByteArray := l.map (·.name)
theorem nms_len (l : List Fl) : (nms l).length = l.length := by simp [nms]
theorem nms_get {l : List Fl} {j : Nat} (h : j < l.length) : (nms l).getD j ⟨#[]⟩ = (l.getD j fl0).name := by
  simp [nms, List.getD_eq_getElem?_getD, h]
/-- The first file with a name. -/
def findF : List Fl → ByteArray → Option Fl
  | [], _ => none
  | x :: l, t => if x.name = t then some x else findF l t
theorem findF_at : ∀ (l : List Fl) (t : ByteArray) (i : Nat), i < l.length → (l.getD i fl0).name = t → (∀ j, j < i → ¬ (l.getD j fl0).name = t) → findF l t = some (l.getD i fl0)
  | [], _, _, h, _, _ => absurd h (Nat.not_lt_zero _)
  | x :: l, t, 0, _, h2, _ => by
    have h3 : x.name = t := h2
    unfold findF
    rw [if_pos h3]
    rfl
  | x :: l, t, i + 1, h1, h2, h3 => by
    have h4 : ¬ x.name = t := h3 0 (by omega)
    unfold findF
    rw [if_neg h4]
    exact findF_at l t i (by simp at h1; omega) h2 (fun j hj => h3 (j + 1) (by omega))
theorem findF_none : ∀ (l : List Fl) (t : ByteArray), (∀ j, j < l.length → ¬ (l.getD j fl0).name = t) → findF l t = none
  | [], _, _ => rfl
  | x :: l, t, h => by
    have h4 : ¬ x.name = t := h 0 (by simp)
    unfold findF
    rw [if_neg h4]
    exact findF_none l t (fun j hj => h (j + 1) (by simp; omega))
theorem ltB_iff (a b : ByteArray) : ltB a b = true ↔ a.toList < b.toList := by
  unfold ltB
  rw [bytesLess_eq]
  simp
theorem ltB_trans {a b c : ByteArray} (h1 : ltB a b = true) (h2 : ltB b c = true) : ltB a c = true := by
  rw [ltB_iff] at *
  exact List.lt_trans h1 h2
theorem ltB_irrefl (a : ByteArray) : ¬ ltB a a = true := by
  rw [ltB_iff]
  exact List.lt_irrefl _
/-- Names that ascend. -/
def Asc (ns : List ByteArray) : Prop := ∀ i, 0 < i → i < ns.length → ltB (ns.getD (i - 1) ⟨#[]⟩) (ns.getD i ⟨#[]⟩) = true
theorem Asc.lt {ns : List ByteArray} (h : Asc ns) {i j : Nat} (hij : i < j) (hj : j < ns.length) : ltB (ns.getD i ⟨#[]⟩) (ns.getD j ⟨#[]⟩) = true := by
  induction j with
  | zero => omega
  | succ j ih =>
    have h1 := h (j + 1) (by omega) hj
    rw [Nat.add_sub_cancel] at h1
    by_cases e : i = j
    · subst e; exact h1
    · exact ltB_trans (ih (by omega) (by omega)) h1
theorem asc_of {l : List Fl} (h : PlOk l) : Asc (nms l) := fun i h0 hi => by
  rw [nms_len] at hi
  rw [nms_get hi, nms_get (by omega)]
  exact (h.2 i hi).2 h0
/-- Above all: put behind. -/
theorem putN_above {ns : List ByteArray} {t : ByteArray} (h : ∀ j, j < ns.length → ltB (ns.getD j ⟨#[]⟩) t = true) : putN ns t = ns ++ [t] := by
  have e : atN ns t = ns.length := bsGo_all _ _ _ _ (Nat.zero_le _) (by omega) (fun j _ hj => h j hj)
  have hn : ¬ thereN ns t := fun h => by have h1 := h.1; rw [e] at h1; exact Nat.lt_irrefl _ h1
  unfold putN
  rw [if_neg hn, e]
  unfold insAt
  simp
theorem layN_asc {l : List Fl} (h : Asc (nms l)) : ∀ j, j ≤ l.length → layN [] (l.take j) = nms (l.take j) := by
  intro j
  induction j with
  | zero => intro _; rfl
  | succ j ih =>
    intro hj
    rw [layN_next (by omega), ih (by omega), putN_above]
    · unfold nms
      rw [take_next (by omega), List.map_append]
      rfl
    · intro i hi
      rw [nms_len, List.length_take] at hi
      have h1 : (nms (l.take j)).getD i ⟨#[]⟩ = (nms l).getD i ⟨#[]⟩ := by
        simp [nms, List.getD_eq_getElem?_getD, show i < j by omega]
      rw [h1, ← nms_get (by omega : j < l.length)]
      exact h.lt (by omega) (by rw [nms_len]; omega)
theorem names_of {l : List Fl} (h : PlOk l) : layN [] l = nms l := by
  have := layN_asc (asc_of h) l.length (Nat.le_refl _)
  rwa [List.take_length] at this
theorem layF_at (l : List Fl) : ∀ (j : Nat), j ≤ l.length → ∀ t, layF (fun _ => none) (l.take j) t = none ∧ (∀ i, i < j → ¬ (l.getD i fl0).name = t) ∨ ∃ i, i < j ∧ (l.getD i fl0).name = t ∧ (∀ i', i < i' → i' < j → ¬ (l.getD i' fl0).name = t) ∧ layF (fun _ => none) (l.take j) t = some (l.getD i fl0) := by
  intro j
  induction j with
  | zero => intro _ t; exact .inl ⟨rfl, fun i hi => absurd hi (Nat.not_lt_zero _)⟩
  | succ j ih =>
    intro hj t
    rw [layF_next (by omega)]
    unfold setF
    by_cases e : t = (l.getD j fl0).name
    · rw [if_pos e]
      exact .inr ⟨j, by omega, e.symm, fun i' h1 h2 => by omega, rfl⟩
    · rw [if_neg e]
      rcases ih (by omega) t with ⟨h1, h2⟩ | ⟨i, h1, h2, h3, h4⟩
      · refine .inl ⟨h1, fun i hi => ?_⟩
        by_cases e2 : i = j
        · subst e2; exact fun h => e h.symm
        · exact h2 i (by omega)
      · refine .inr ⟨i, by omega, h2, fun i' h5 h6 => ?_, h4⟩
        by_cases e2 : i' = j
        · subst e2; exact fun h => e h.symm
        · exact h3 i' h5 (by omega)
theorem files_of {l : List Fl} (h : PlOk l) (t : ByteArray) : layF (fun _ => none) l t = findF l t := by
  have h1 := layF_at l l.length (Nat.le_refl _) t
  rw [List.take_length] at h1
  rcases h1 with ⟨h1, h2⟩ | ⟨i, h1, h2, h3, h4⟩
  · rw [h1, findF_none l t h2]
  · rw [h4, findF_at l t i h1 h2]
    intro j hj e
    have h5 := (asc_of h).lt hj (by rw [nms_len]; exact h1)
    rw [nms_get h1, nms_get (by omega), h2, e] at h5
    exact ltB_irrefl _ h5
theorem seeP_of {l : List Fl} (h : PlOk l) (kind : Int) (t : ByteArray) : seeP l kind t = seeR (nms l) (findF l) kind t := by
  unfold seeP
  rw [names_of h]
  have : layF (fun _ => none) l = findF l := funext (files_of h)
  rw [this]
end Go.Proofs.Ytpcfhbbialgcfaa.P
