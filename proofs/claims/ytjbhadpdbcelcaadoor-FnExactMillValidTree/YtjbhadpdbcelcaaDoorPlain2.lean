import Derived.Test.YtjbhadpdbcelcaaDoorPlain
namespace Go.Proofs.YtjbhadpdbcelcaaDoor
theorem beg_not_dig {c : UInt8} (h : letB c = true) : 1 ≤ run letB [c] := by rw [run_cons, if_pos h]; omega
theorem run_pos (p : UInt8 → Bool) (c : UInt8) (r : List UInt8) (h : p c = true) : 1 ≤ run p (c :: r) := by rw [run_cons, if_pos h]; omega
theorem marks_pos : ∀ m ∈ marks, 1 ≤ m.length := by decide
/-- A token that is one takes a byte at least, and no more than there are. -/
theorem one_size (L : List UInt8) (h : (one L).code = 0) : 1 ≤ (one L).size ∧ (one L).size ≤ L.length := by
  cases L with
  | nil => simp [one, One.bad] at h
  | cons c r =>
    simp only [one] at h ⊢
    split at h
    · rename_i hc
      rw [if_pos hc]
      unfold textOne at h ⊢
      cases hu : unqF (r.length + 1) r with
      | none => rw [hu] at h; simp [One.bad] at h
      | some x =>
        obtain ⟨o, k⟩ := x
        rw [hu] at h
        have := unqF_pos hu
        simp only at h ⊢
        by_cases hl : 1000 < o.length
        · rw [if_pos hl] at h; simp [One.bad] at h
        · rw [if_neg hl]; simp; omega
    · rename_i hc
      rw [if_neg hc]
      split at h
      · rename_i hd
        rw [if_pos hd]
        unfold numOne at h ⊢
        split at h
        · simp [One.bad] at h
        · rename_i hx
          rw [if_neg hx]
          exact ⟨run_pos _ _ _ hd, run_le _ _⟩
      · rename_i hd
        rw [if_neg hd]
        split at h
        · rename_i hl
          rw [if_pos hl]
          unfold nameOne at h ⊢
          split at h
          · rename_i hx
            rw [if_pos hx]; exact ⟨run_pos _ _ _ hl, run_le _ _⟩
          · rename_i hx
            rw [if_neg hx]
            split at h
            · simp [One.bad] at h
            · rename_i hy
              rw [if_neg hy]; exact ⟨run_pos _ _ _ hl, run_le _ _⟩
        · rename_i hl
          rw [if_neg hl]
          unfold markOne at h ⊢
          cases hm : marks.find? (fun m => m.isPrefixOf (c :: r)) with
          | none => rw [hm] at h; simp [One.bad] at h
          | some m =>
            have h1 := List.mem_of_find?_eq_some hm
            have h2 := List.find?_some hm
            have h3 := (List.isPrefixOf_iff_prefix.1 h2).length_le
            exact ⟨marks_pos m h1, h3⟩
theorem scanA_end (f : Nat) (l : List UInt8) (p : Nat) (h : l.length ≤ p) : scanA f l p = ([], none) := by
  cases f with
  | zero => rfl
  | succ f => unfold scanA; rw [if_pos h]
theorem scanA_bad (f : Nat) (l : List UInt8) (p : Nat) (h : p < l.length) (hc : ¬ (one (l.drop p)).code = 0) : scanA (f + 1) l p = ([], some ((one (l.drop p)).code, p)) := by
  unfold scanA; rw [if_neg (by omega), if_pos hc]
theorem scanA_go (f : Nat) (l : List UInt8) (p : Nat) (h : p < l.length) (hc : (one (l.drop p)).code = 0) : scanA (f + 1) l p =
    (⟨(one (l.drop p)).kind, (one (l.drop p)).text, (one (l.drop p)).n, p⟩ :: (scanA f l (p + (one (l.drop p)).size + gapN false (l.drop (p + (one (l.drop p)).size)))).1,
       (scanA f l (p + (one (l.drop p)).size + gapN false (l.drop (p + (one (l.drop p)).size)))).2) := by
  rw [scanA, if_neg (by omega), if_neg (by simp [hc])]
/-- What stands behind the tokens 'pre' that have been read: the whole is these and the rest. -/
def scanRest (l : List UInt8) (f p : Nat) (pre : List Tok) : Prop := scanA (l.length + 1) l (gapN false l) = (pre ++ (scanA f l p).1, (scanA f l p).2)
theorem scanRest_go {l : List UInt8} {f p : Nat} {pre : List Tok} (hr : scanRest l (f + 1) p pre) (h : p < l.length) (hc : (one (l.drop p)).code = 0) :
    scanRest l f (p + (one (l.drop p)).size + gapN false (l.drop (p + (one (l.drop p)).size))) (pre ++ [⟨(one (l.drop p)).kind, (one (l.drop p)).text, (one (l.drop p)).n, p⟩]) := by
  unfold scanRest at *; rw [hr, scanA_go f l p h hc]; simp
theorem scanRest_bad {l : List UInt8} {f p : Nat} {pre : List Tok} (hr : scanRest l (f + 1) p pre) (h : p < l.length) (hl : l.length ≤ 8000) (hc : ¬ (one (l.drop p)).code = 0) :
    scanR l = ([], (one (l.drop p)).code, p) := by
  unfold scanRest at hr; unfold scanR; rw [if_neg (by omega), hr, scanA_bad f l p h hc]
theorem scanRest_end {l : List UInt8} {f p : Nat} {pre : List Tok} (hr : scanRest l f p pre) (h : l.length ≤ p) (hl : l.length ≤ 8000) : scanR l = (pre, 0, 0) := by
  unfold scanRest at hr; unfold scanR; rw [if_neg (by omega), hr, scanA_end f l p h]; simp
/-- There are no more tokens than bytes. -/
theorem one_code (L : List UInt8) : (one L).code ≤ 5 := by
  have hb : ∀ c, c ≤ 5 → (One.bad c).code ≤ 5 := fun c h => h
  cases L with
  | nil => exact hb 2 (by decide)
  | cons c r =>
    simp only [one]
    split
    · unfold textOne; split
      · exact hb 4 (by decide)
      · split
        · exact hb 5 (by decide)
        · exact Nat.zero_le _
    · split
      · unfold numOne; split
        · exact hb 3 (by decide)
        · exact Nat.zero_le _
      · split
        · unfold nameOne; split
          · exact Nat.zero_le _
          · split
            · exact hb 5 (by decide)
            · exact Nat.zero_le _
        · unfold markOne; split
          · exact hb 2 (by decide)
          · exact Nat.zero_le _
end Go.Proofs.YtjbhadpdbcelcaaDoor
