import Derived.Test.YtpcfhbbialgcfaaPlPutM
/-! Files put into a place in order: by their names. -/
namespace Go.Proofs.Ytpcfhbbialgcfaa.P
open Go.RowKit
open Go.Proofs.Ytpcfhbbialgcfaa.R (Fl fl0)
set_option maxRecDepth 20000
theorem findF_mem : ∀ (l : List Fl) (t : ByteArray) (y : Fl), findF l t = some y → y ∈ l ∧ y.name = t
  | [], _, _, h => by cases h
  | x :: l, t, y, h => by
    unfold findF at h
    split at h
    · rename_i e
      injection h with h
      subst h
      exact ⟨List.mem_cons_self, e⟩
    · obtain ⟨h1, h2⟩ := findF_mem l t y h
      exact ⟨List.mem_cons_of_mem _ h1, h2⟩
theorem findF_of {l : List Fl} (h : Asc (nms l)) {y : Fl} (hy : y ∈ l) : findF l y.name = some y := by
  obtain ⟨i, hi, he⟩ := List.getElem_of_mem hy
  have hg : l.getD i fl0 = y := by rw [List.getD_eq_getElem?_getD, List.getElem?_eq_getElem hi]; exact he
  have := findF_at l y.name i hi (by rw [hg]) (fun j hj e => by
    have h5 := h.lt hj (by rw [nms_len]; exact hi)
    rw [nms_get hi, nms_get (by omega), hg, e] at h5
    exact ltB_irrefl _ h5)
  rw [this, hg]
theorem mem_put {l : List Fl} {x y : Fl} (h : ¬ y.name = x.name) : y ∈ putL l x ↔ y ∈ l := by
  rw [putL_eq]
  constructor
  · intro h1
    rcases List.mem_append.1 h1 with h2 | h2
    · exact List.mem_of_mem_take h2
    · rcases List.mem_cons.1 h2 with h3 | h3
      · rw [h3] at h; exact absurd rfl h
      · exact List.mem_of_mem_drop h3
  · intro h1
    obtain ⟨i, hi, he⟩ := List.getElem_of_mem h1
    by_cases h2 : i < atN (nms l) x.name
    · refine List.mem_append.2 (.inl ?_)
      rw [← he]
      exact List.mem_take_iff_getElem.2 ⟨i, by omega, rfl⟩
    · by_cases h3 : dropN l x ≤ i
      · refine List.mem_append.2 (.inr (List.mem_cons_of_mem _ ?_))
        rw [← he]
        exact List.mem_drop_iff_getElem.2 ⟨i - dropN l x, by omega, by congr 1; omega⟩
      · have h4 := dropN_le l x
        have h5 : i = atN (nms l) x.name := by omega
        have ht : thereN (nms l) x.name := by
          by_cases ht : thereN (nms l) x.name
          · exact ht
          · rw [dropN_no ht] at h3; omega
        have h6 := ht.2
        rw [← h5, nms_get hi, List.getD_eq_getElem?_getD, List.getElem?_eq_getElem hi] at h6
        have h7 : y.name = x.name := by rw [← he]; exact h6
        exact absurd h7 h
theorem mem_put_self (l : List Fl) (x : Fl) : x ∈ putL l x := by
  rw [putL_eq]
  exact List.mem_append.2 (.inr List.mem_cons_self)
theorem find_put {l : List Fl} (h : Asc (nms l)) (x : Fl) : findF (putL l x) = setF (findF l) x := by
  have hp : Asc (nms (putL l x)) := by rw [nms_put]; exact asc_put h _
  funext t
  unfold setF
  by_cases e : t = x.name
  · rw [if_pos e, e]
    exact findF_of hp (mem_put_self l x)
  · rw [if_neg e]
    cases h1 : findF l t with
    | none =>
      cases h2 : findF (putL l x) t with
      | none => rfl
      | some y =>
        obtain ⟨h3, h4⟩ := findF_mem _ _ _ h2
        have h5 := (mem_put (fun e2 => e (h4.symm.trans e2))).1 h3
        have h6 := findF_of h h5
        rw [h4, h1] at h6
        cases h6
    | some y =>
      obtain ⟨h3, h4⟩ := findF_mem _ _ _ h1
      have h5 := (mem_put (x := x) (fun e2 => e (h4.symm.trans e2))).2 h3
      have h6 := findF_of hp h5
      rw [h4] at h6
      exact h6
def putAll (l fs : List Fl) : List Fl := fs.foldl putL l
theorem putAll_all : ∀ (fs l : List Fl), Asc (nms l) → Asc (nms (putAll l fs)) ∧ layN (nms l) fs = nms (putAll l fs) ∧ layF (findF l) fs = findF (putAll l fs)
  | [], l, h => ⟨h, rfl, rfl⟩
  | x :: fs, l, h => by
    have hp : Asc (nms (putL l x)) := by rw [nms_put]; exact asc_put h _
    obtain ⟨h1, h2, h3⟩ := putAll_all fs (putL l x) hp
    refine ⟨h1, ?_, ?_⟩
    · show layN (putN (nms l) x.name) fs = _
      rw [← nms_put]
      exact h2
    · show layF (setF (findF l) x) fs = _
      rw [← find_put h]
      exact h3
theorem putAll_next {l fs : List Fl} {j : Nat} (h : j < fs.length) : putAll l (fs.take (j + 1)) = putL (putAll l (fs.take j)) (fs.getD j fl0) := by
  unfold putAll
  rw [take_next h, List.foldl_append]
  rfl
theorem putAll_len : ∀ (fs l : List Fl), (putAll l fs).length ≤ l.length + fs.length
  | [], l => Nat.le_refl _
  | x :: fs, l => by
    have h1 := putAll_len fs (putL l x)
    have h2 := putL_len l x
    show (putAll (putL l x) fs).length ≤ _
    simp only [List.length_cons]
    omega
/-- A file out of a name and what is found by it. -/
def fileOf (f : ByteArray → Option Fl) (n : ByteArray) : Fl := ⟨n, ((f n).getD fl0).text⟩
theorem place_eq {l : List Fl} (h : Asc (nms l)) : (nms l).map (fileOf (findF l)) = l := by
  unfold nms
  rw [List.map_map]
  have : ∀ x ∈ l, (fileOf (findF l) ∘ fun x => x.name) x = x := fun x hx => by
    show fileOf (findF l) x.name = x
    unfold fileOf
    rw [findF_of h hx]
    rfl
  rw [List.map_congr_left this]
  simp
theorem layN_app (ns : List ByteArray) (a b : List Fl) : layN ns (a ++ b) = layN (layN ns a) b := by simp [layN]
theorem layF_app (f : ByteArray → Option Fl) (a b : List Fl) : layF f (a ++ b) = layF (layF f a) b := by simp [layF]
end Go.Proofs.Ytpcfhbbialgcfaa.P
