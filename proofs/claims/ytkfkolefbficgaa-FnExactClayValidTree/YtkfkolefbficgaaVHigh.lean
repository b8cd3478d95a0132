import Derived.Test.YtkfkolefbficgaaVRow
/-! How high nodes lie, and what a valid tree is: plain mathematics. -/
namespace Go.Proofs.Ytkfkolefbficgaa
def upK (l : List Nat) : Nat := l.foldl (fun h x => max h (x + 1)) 0
theorem upK_snoc (l : List Nat) (x : Nat) : upK (l ++ [x]) = max (upK l) (x + 1) := by simp [upK]
def kidHighs (hs ks : List Nat) : List Nat := ks.map fun k => hs.getD k 0
def highs (o : List (List Nat)) : List Nat := o.foldl (fun hs ks => hs ++ [upK (kidHighs hs ks)]) []
theorem highs_snoc (o : List (List Nat)) (ks : List Nat) : highs (o ++ [ks]) = highs o ++ [upK (kidHighs (highs o) ks)] := by simp [highs]
theorem highs_length (o : List (List Nat)) : (highs o).length = o.length := by
  have : ∀ n, ∀ o : List (List Nat), o.length = n → (highs o).length = o.length := by
    intro n
    induction n with
    | zero => intro o h; rw [List.length_eq_zero_iff.1 h]; rfl
    | succ n ih =>
      intro o h
      obtain ⟨o', ks, rfl⟩ := (List.eq_nil_or_concat o).resolve_left (by rintro rfl; cases h)
      rw [List.concat_eq_append] at h ⊢
      rw [highs_snoc, List.length_append, List.length_append, ih o' (by simp at h; exact h)]
      rfl
  exact this _ o rfl
theorem highs_take (o : List (List Nat)) (i : Nat) (hi : i < o.length) : highs (o.take (i + 1)) = highs (o.take i) ++ [upK (kidHighs (highs (o.take i)) (o.getD i []))] := by
  rw [List.take_succ_eq_append_getElem hi, highs_snoc, List.getD_eq_getElem?_getD, List.getElem?_eq_getElem hi]
  rfl
theorem highs_pre (o : List (List Nat)) (j : Nat) : ∀ i, i < j → j ≤ o.length → (highs (o.take j)).getD i 0 = (highs o).getD i 0 := by
  have : ∀ d, ∀ j, j + d = o.length → ∀ i, i < j → (highs (o.take j)).getD i 0 = (highs o).getD i 0 := by
    intro d
    induction d with
    | zero => intro j h i _; rw [List.take_of_length_le (by omega)]
    | succ d ih =>
      intro j h i hi
      rw [← ih (j + 1) (by omega) i (by omega), highs_take o j (by omega)]
      rw [List.getD_eq_getElem?_getD, List.getD_eq_getElem?_getD, List.getElem?_append_left (by rw [highs_length, List.length_take]; omega)]
  intro i hi hj
  exact this (o.length - j) j (by omega) i hi
theorem upK_le {l : List Nat} {x : Nat} (h : x ∈ l) : x + 1 ≤ upK l := by
  have : ∀ n, ∀ l : List Nat, l.length = n → x ∈ l → x + 1 ≤ upK l := by
    intro n
    induction n with
    | zero => intro l h hx; rw [List.length_eq_zero_iff.1 h] at hx; cases hx
    | succ n ih =>
      intro l h hx
      obtain ⟨l', y, rfl⟩ := (List.eq_nil_or_concat l).resolve_left (by rintro rfl; cases h)
      rw [List.concat_eq_append] at h hx ⊢
      rw [upK_snoc]
      rcases List.mem_append.1 hx with hx | hx
      · have := ih l' (by simp at h; exact h) hx
        omega
      · simp at hx; omega
  exact this _ l rfl h
/-- The i-th node fits to its kids. -/
def FitAt (nd : Nat → Nd) (o : List (List Nat)) (i : Nat) : Prop := PlainNd (nd i) ∧ KidsOk (nd i).kind (o.getD i []).length (fun k => nd ((o.getD i []).getD k 0))
def ValidT (nd : Nat → Nd) (N : Nat) : Prop := 1 ≤ N ∧ N ≤ 5000 ∧ (nd (N - 1)).kind = 24 ∧ ∃ o x, kidsF nd N = some (o, [x]) ∧ ∀ i, i < N → (highs o).getD i 0 ≤ 50 ∧ FitAt nd o i
theorem kidsF_step {nd : Nat → Nd} {j : Nat} {o : List (List Nat)} {s : List Nat} (h : kidsF nd (j + 1) = some (o, s)) : ∃ o' sp sk, kidsF nd j = some (o', sp ++ sk) ∧ o = o' ++ [sk] ∧ s = sp ++ [j] ∧ (nd j).kids = sk.length := by
  simp only [kidsF] at h
  cases hk : kidsF nd j with
  | none => rw [hk] at h; cases h
  | some x =>
    obtain ⟨o', s'⟩ := x
    rw [hk] at h
    dsimp only at h
    split at h
    · rename_i hc
      cases h
      refine ⟨o', _, _, by rw [List.take_append_drop], rfl, rfl, ?_⟩
      rw [List.length_drop]; omega
    · cases h
theorem kidsF_pre {nd : Nat → Nd} {N : Nat} {o : List (List Nat)} {s : List Nat} (h : kidsF nd N = some (o, s)) (j : Nat) (hj : j ≤ N) : ∃ s', kidsF nd j = some (o.take j, s') := by
  induction N generalizing o s with
  | zero => obtain rfl : j = 0 := by omega
            simp [kidsF] at h ⊢
  | succ N ih =>
    by_cases e : j = N + 1
    · subst e
      have := (kidsF_len nd _ _ _ h).1
      exact ⟨s, by rw [List.take_of_length_le (by omega)]; exact h⟩
    · obtain ⟨o', sp, sk, h1, rfl, rfl, _⟩ := kidsF_step h
      have := (kidsF_len nd _ _ _ h1).1
      rw [List.take_append_of_le_length (by omega)]
      exact ih h1 (by omega)
theorem kidsF_cover {nd : Nat → Nd} {j : Nat} {o : List (List Nat)} {s : List Nat} (h : kidsF nd j = some (o, s)) : ∀ i, i < j → ∃ y, y ∈ s ∧ (highs o).getD i 0 ≤ (highs o).getD y 0 := by
  induction j generalizing o s with
  | zero => intro i hi; omega
  | succ j ih =>
    intro i hi
    obtain ⟨o', sp, sk, h1, rfl, rfl, _⟩ := kidsF_step h
    have hl := kidsF_len nd _ _ _ h1
    have hh : (highs o').length = j := by rw [highs_length]; exact hl.1
    have old : ∀ y, y < j → (highs o' ++ [upK (kidHighs (highs o') sk)]).getD y 0 = (highs o').getD y 0 := fun y hy => by
      rw [List.getD_eq_getElem?_getD, List.getD_eq_getElem?_getD, List.getElem?_append_left (by omega)]
    have new : (highs o' ++ [upK (kidHighs (highs o') sk)]).getD j 0 = upK (kidHighs (highs o') sk) := by
      rw [List.getD_eq_getElem?_getD, List.getElem?_append_right (by omega), hh]; simp
    rw [highs_snoc]
    by_cases e : i = j
    · subst e; exact ⟨i, by simp, Nat.le_refl _⟩
    · obtain ⟨y, hy, hle⟩ := ih h1 i (by omega)
      have hyj := hl.2.2 y hy
      rcases List.mem_append.1 hy with hy | hy
      · exact ⟨y, by simp [hy], by rw [old i (by omega), old y hyj]; exact hle⟩
      · refine ⟨j, by simp, ?_⟩
        rw [old i (by omega), new]
        have := upK_le (l := kidHighs (highs o') sk) (x := (highs o').getD y 0) (List.mem_map.2 ⟨y, hy, rfl⟩)
        omega
theorem valid_end {nd : Nat → Nd} {N : Nat} {o : List (List Nat)} {s : List Nat} (hN : N ≤ 5000) (h : kidsF nd N = some (o, s)) (hf : ∀ i, i < N → FitAt nd o i) : ValidT nd N ↔ s.length = 1 ∧ (nd (s.getD 0 0)).kind = 24 ∧ (highs o).getD (s.getD 0 0) 0 ≤ 50 := by
  cases N with
  | zero =>
    simp [kidsF] at h
    obtain ⟨rfl, rfl⟩ := h
    constructor
    · rintro ⟨h, _⟩; omega
    · rintro ⟨h, _⟩; cases h
  | succ N =>
    obtain ⟨o', sp, sk, h1, ho, hs, _⟩ := kidsF_step h
    constructor
    · rintro ⟨_, _, h3, o2, x, h4, h5⟩
      rw [h] at h4
      cases h4
      have hx : x = N := by
        cases sp with
        | nil => simp at hs; exact hs
        | cons a t => cases t <;> simp at hs
      subst hx
      exact ⟨rfl, by simpa using h3, by simpa using (h5 x (by omega)).1⟩
    · rintro ⟨h3, h4, h5⟩
      obtain ⟨x, hx⟩ := List.length_eq_one_iff.1 h3
      subst hx
      have hx : x = N := by
        cases sp with
        | nil => simp at hs; exact hs
        | cons a t => cases t <;> simp at hs
      subst hx
      refine ⟨by omega, hN, by simpa using h4, o, x, h, fun i hi => ⟨?_, hf i hi⟩⟩
      obtain ⟨y, hy, hle⟩ := kidsF_cover h i hi
      simp at hy
      subst hy
      simp at h5
      simp at hle ⊢
      omega
theorem invalid_at {nd : Nat → Nd} {N j : Nat} {o : List (List Nat)} {sp sk : List Nat} (hj : j < N) (h : kidsF nd j = some (o, sp ++ sk)) (hk : (nd j).kids = sk.length) (hb : ¬ (PlainNd (nd j) ∧ KidsOk (nd j).kind sk.length (fun k => nd (sk.getD k 0)))) : ¬ ValidT nd N := by
  rintro ⟨_, _, _, O, x, h4, h5⟩
  obtain ⟨s', h6⟩ := kidsF_pre h4 (j + 1) (by omega)
  rw [kidsF_good h hk rfl] at h6
  injection h6 with h6
  injection h6 with h6 _
  have hl := kidsF_len nd _ _ _ h
  have hO := (kidsF_len nd _ _ _ h4).1
  have e : O.getD j [] = sk := by
    have : (O.take (j + 1))[j]? = (o ++ [sk])[j]? := by rw [h6]
    rw [List.getElem?_take_of_lt (by omega), List.getElem?_append_right (by omega), hl.1] at this
    rw [List.getD_eq_getElem?_getD, this]; simp
  have := (h5 j hj).2
  unfold FitAt at this
  rw [e] at this
  exact hb this
theorem FitAt_snoc {nd : Nat → Nd} {o : List (List Nat)} {sk : List Nat} (h : ∀ i, i < o.length → FitAt nd o i) (hn : PlainNd (nd o.length) ∧ KidsOk (nd o.length).kind sk.length (fun k => nd (sk.getD k 0))) : ∀ i, i < o.length + 1 → FitAt nd (o ++ [sk]) i := by
  intro i hi
  unfold FitAt
  by_cases e : i = o.length
  · subst e
    have : (o ++ [sk]).getD o.length [] = sk := by rw [List.getD_eq_getElem?_getD, List.getElem?_append_right (Nat.le_refl _)]; simp
    rw [this]; exact hn
  · have : (o ++ [sk]).getD i [] = o.getD i [] := by rw [List.getD_eq_getElem?_getD, List.getD_eq_getElem?_getD, List.getElem?_append_left (by omega)]
    rw [this]; exact h i (by omega)
end Go.Proofs.Ytkfkolefbficgaa
