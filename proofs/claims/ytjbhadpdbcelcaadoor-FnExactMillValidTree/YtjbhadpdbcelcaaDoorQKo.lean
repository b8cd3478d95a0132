import Derived.Test.YtjbhadpdbcelcaaDoorQB0
/-! Printed by gen_fit.py. -/
namespace Go.Proofs.YtjbhadpdbcelcaaDoor.Q
open Go.RowKit Go.Shelf
set_option maxRecDepth 20000
theorem ko_1 (op ty n kids : Int) (t : ByteArray) (m : Nat) (kd : Nat → Int) : KidsOk ⟨1, op, ty, n, t, kids⟩ m kd ↔ m = 0 := by simp [KidsOk]
theorem ko_2 (op ty n kids : Int) (t : ByteArray) (m : Nat) (kd : Nat → Int) : KidsOk ⟨2, op, ty, n, t, kids⟩ m kd ↔ m = 0 := by simp [KidsOk]
theorem ko_3 (op ty n kids : Int) (t : ByteArray) (m : Nat) (kd : Nat → Int) : KidsOk ⟨3, op, ty, n, t, kids⟩ m kd ↔ m = 0 := by simp [KidsOk]
theorem ko_4 (op ty n kids : Int) (t : ByteArray) (m : Nat) (kd : Nat → Int) : KidsOk ⟨4, op, ty, n, t, kids⟩ m kd ↔ m = 0 := by simp [KidsOk]
theorem ko_5 (op ty n kids : Int) (t : ByteArray) (m : Nat) (kd : Nat → Int) : KidsOk ⟨5, op, ty, n, t, kids⟩ m kd ↔ m = 1 ∧ AllE m kd := by simp [KidsOk]
theorem ko_6 (op ty n kids : Int) (t : ByteArray) (m : Nat) (kd : Nat → Int) : KidsOk ⟨6, op, ty, n, t, kids⟩ m kd ↔ m = 2 ∧ AllE m kd := by simp [KidsOk]
theorem ko_7 (op ty n kids : Int) (t : ByteArray) (m : Nat) (kd : Nat → Int) : KidsOk ⟨7, op, ty, n, t, kids⟩ m kd ↔ m ≤ 8 ∧ AllE m kd := by simp [KidsOk]
theorem ko_8 (op ty n kids : Int) (t : ByteArray) (m : Nat) (kd : Nat → Int) : KidsOk ⟨8, op, ty, n, t, kids⟩ m kd ↔ m = builtKids op ∧ AllE m kd := by simp [KidsOk]
theorem ko_9 (op ty n kids : Int) (t : ByteArray) (m : Nat) (kd : Nat → Int) : KidsOk ⟨9, op, ty, n, t, kids⟩ m kd ↔ m = 1 ∧ AllE m kd := by simp [KidsOk]
theorem ko_10 (op ty n kids : Int) (t : ByteArray) (m : Nat) (kd : Nat → Int) : KidsOk ⟨10, op, ty, n, t, kids⟩ m kd ↔ m = 1 ∧ AllE m kd := by simp [KidsOk]
theorem ko_11 (op ty n kids : Int) (t : ByteArray) (m : Nat) (kd : Nat → Int) : KidsOk ⟨11, op, ty, n, t, kids⟩ m kd ↔ m = 1 ∧ AllE m kd := by simp [KidsOk]
theorem ko_12 (op ty n kids : Int) (t : ByteArray) (m : Nat) (kd : Nat → Int) : KidsOk ⟨12, op, ty, n, t, kids⟩ m kd ↔ (m = 2 ∨ m = 3) ∧ mE (kd 0) ∧ kd 1 = 21 ∧ (m = 3 → kd 2 = 21 ∨ kd 2 = 12) := by simp [KidsOk]
theorem ko_13 (op ty n kids : Int) (t : ByteArray) (m : Nat) (kd : Nat → Int) : KidsOk ⟨13, op, ty, n, t, kids⟩ m kd ↔ m = 2 ∧ mE (kd 0) ∧ kd 1 = 21 := by simp [KidsOk]
theorem ko_14 (op ty n kids : Int) (t : ByteArray) (m : Nat) (kd : Nat → Int) : KidsOk ⟨14, op, ty, n, t, kids⟩ m kd ↔ m = 0 := by simp [KidsOk]
theorem ko_15 (op ty n kids : Int) (t : ByteArray) (m : Nat) (kd : Nat → Int) : KidsOk ⟨15, op, ty, n, t, kids⟩ m kd ↔ m = 0 := by simp [KidsOk]
theorem ko_16 (op ty n kids : Int) (t : ByteArray) (m : Nat) (kd : Nat → Int) : KidsOk ⟨16, op, ty, n, t, kids⟩ m kd ↔ m ≤ 1 ∧ AllE m kd := by simp [KidsOk]
theorem ko_17 (op ty n kids : Int) (t : ByteArray) (m : Nat) (kd : Nat → Int) : KidsOk ⟨17, op, ty, n, t, kids⟩ m kd ↔ m = 1 ∧ AllE m kd := by simp [KidsOk]
theorem ko_18 (op ty n kids : Int) (t : ByteArray) (m : Nat) (kd : Nat → Int) : KidsOk ⟨18, op, ty, n, t, kids⟩ m kd ↔ m = 2 ∧ AllE m kd := by simp [KidsOk]
theorem ko_19 (op ty n kids : Int) (t : ByteArray) (m : Nat) (kd : Nat → Int) : KidsOk ⟨19, op, ty, n, t, kids⟩ m kd ↔ m = 1 ∧ AllE m kd := by simp [KidsOk]
theorem ko_20 (op ty n kids : Int) (t : ByteArray) (m : Nat) (kd : Nat → Int) : KidsOk ⟨20, op, ty, n, t, kids⟩ m kd ↔ m = 1 ∧ kd 0 = 7 := by simp [KidsOk]
theorem ko_21 (op ty n kids : Int) (t : ByteArray) (m : Nat) (kd : Nat → Int) : KidsOk ⟨21, op, ty, n, t, kids⟩ m kd ↔ ∀ i, i < m → mS (kd i) := by simp [KidsOk]
theorem ko_22 (op ty n kids : Int) (t : ByteArray) (m : Nat) (kd : Nat → Int) : KidsOk ⟨22, op, ty, n, t, kids⟩ m kd ↔ m = 0 := by simp [KidsOk]
theorem ko_23 (op ty n kids : Int) (t : ByteArray) (m : Nat) (kd : Nat → Int) : KidsOk ⟨23, op, ty, n, t, kids⟩ m kd ↔ 1 ≤ m ∧ m ≤ 9 ∧ (∀ i, i + 1 < m → kd i = 22) ∧ kd (m - 1) = 21 := by simp [KidsOk]
theorem ko_24 (op ty n kids : Int) (t : ByteArray) (m : Nat) (kd : Nat → Int) : KidsOk ⟨24, op, ty, n, t, kids⟩ m kd ↔ 1 ≤ m ∧ m ≤ 60 ∧ ∀ i, i < m → kd i = 23 := by simp [KidsOk]
theorem ko_E (k op ty n kids : Int) (t : ByteArray) (m : Nat) (kd : Nat → Int) (hk : k < 1 ∨ 24 < k) : ¬ KidsOk ⟨k, op, ty, n, t, kids⟩ m kd := by
  unfold KidsOk
  rintro (h | h | h | h | h | h | h | h | h | h | h | h)
  all_goals have h0 := h.1
  all_goals simp at h0
  all_goals omega
theorem allE_1 (kd : Nat → Int) : AllE 1 kd ↔ mE (kd 0) := by
  constructor
  · intro h; exact h 0 (by omega)
  · intro h i hi
    obtain rfl : i = 0 := by omega
    exact h
theorem eBool (k : Int) : (decide (1 ≤ k) && decide (k ≤ 9)) = true ↔ mE k := by unfold mE; simp
theorem sBool (k : Int) : (decide (10 ≤ k) && decide (k ≤ 20)) = true ↔ mS k := by unfold mS; simp
theorem all_step {P : Nat → Prop} {q : Nat} (h : ∀ i, i < q → P i) (hq : P q) : ∀ i, i < q + 1 → P i := fun i hi => by
  rcases Nat.lt_or_eq_of_le (Nat.lt_succ_iff.1 hi) with h' | h'
  · exact h i h'
  · subst h'; exact hq
end Go.Proofs.YtjbhadpdbcelcaaDoor.Q
