import Derived.Test.YtcjgmmiafflgnaaDoorVErr
import Derived.Deep.RegionHeld3
/-! The model's helpers, and boxes. -/
namespace Go.Proofs.YtcjgmmiafflgnaaDoor.V
open Go.RowKit Go.Shelf
set_option maxRecDepth 20000
set_option maxHeartbeats 1000000 in
theorem l13Bool_any (b : Bool) (w : World) :
    Calls Tryd.prog 21 #[.bool b] w fun e w' => e = .returned (boolV b) ∧ Below w.heap.size w w' := by
  cases b
  all_goals go_enter Tryd.func21, Tryd.ntmps21
  all_goals go_wp2
  · exact bodyPost_ret (v := boolV false) (by simp [results, Tryd.results21, go_sem]) rfl ⟨rfl, alloc_below _ _⟩
  · exact bodyPost_ret (v := boolV true) (by simp [results, Tryd.results21, go_sem]) rfl ⟨rfl, alloc_below _ _⟩
set_option maxHeartbeats 1000000 in
theorem l13Num_any (t x : Int) (h3 : 3 ≤ t) (h4 : t ≤ 10) (h1 : 0 ≤ x) (h2 : x ≤ 18446744073709551615) (w : World) :
    Calls Tryd.prog 20 #[.int .i64 t, .int .u64 x] w fun e w' => e = .returned (val t (into t x) wNone) ∧ Below w.heap.size w w' := by
  have HC : Hid (∀ W, Calls Tryd.prog 36 #[.int .i64 t, .int .u64 x] W fun e w' => e = .returned (.int .i64 (into t x)) ∧ w' = W) := fun W => l13Into_any t x h3 h4 h1 h2 W
  generalize into t x = z at *
  go_enter Tryd.func20, Tryd.ntmps20
  go_wp2_with fail
  refine (HC.out _).mono ?_
  rintro e w' ⟨rfl, hw⟩
  have hw2 := hw.symm
  clear hw
  subst hw2
  go_wp2
  exact bodyPost_ret (v := val t z wNone) (by simp [results, Tryd.results20, go_sem]) rfl ⟨rfl, alloc_below _ _⟩
/-- What a mark with one kid gives. -/
def unT (op t : Int) : Int := if (op = 2 ∧ t = 1) ∨ (op ≠ 2 ∧ 3 ≤ t ∧ t ≤ 10) then t else 0
set_option maxHeartbeats 1000000 in
theorem l12Un_any (op t : Int) (w : World) :
    Calls Tryd.prog 19 #[.int .i64 op, .int .i64 t] w fun e w' => e = .returned (.int .i64 (unT op t)) ∧ w' = w := by
  by_cases h2 : op = 2
  · subst h2
    by_cases h1 : t = 1
    · subst h1
      go_enter Tryd.func19, Tryd.ntmps19
      go_wp2
      go_ret
      exact ⟨rfl, rfl⟩
    · have HU : Hid (unT 2 t = 0) := by show _ = _; simp [unT, h1]
      go_enter Tryd.func19, Tryd.ntmps19
      go_wp2
      go_ret
      exact ⟨ret_int (by rw [HU.out]), rfl⟩
  · by_cases h : 3 ≤ t ∧ t ≤ 10
    · have HU : Hid (unT op t = t) := by show _ = _; simp [unT, h2, h]
      obtain ⟨h3, h4⟩ := h
      go_enter Tryd.func19, Tryd.ntmps19
      go_wp2_with (first | (go_at_call 24; refine (l10Integer_t t h3 h4 _).mono ?_; rintro e w' ⟨rfl, hw⟩; have hw2 := hw.symm; clear hw; subst hw2) | fail)
      go_ret
      exact ⟨ret_int (by rw [HU.out]), rfl⟩
    · have HU : Hid (unT op t = 0) := by show _ = _; simp [unT, h2]; omega
      have HH := hid h
      clear h
      go_enter Tryd.func19, Tryd.ntmps19
      go_wp2_with (first | (go_at_call 24; refine (l10Integer_f t HH.out _).mono ?_; rintro e w' ⟨rfl, hw⟩; have hw2 := hw.symm; clear hw; subst hw2) | fail)
      go_ret
      exact ⟨ret_int (by rw [HU.out]), rfl⟩
set_option maxHeartbeats 1000000 in
theorem unGives_any (op t : Int) (w : World) :
    Calls Tryd.prog 39 #[.int .i64 op, .int .i64 t] w fun e w' => e = .returned (.int .i64 (unT op t)) ∧ Below w.heap.size w w' := by
  by_cases h2 : op = 2
  · subst h2
    by_cases h1 : t = 1
    · subst h1
      go_enter Tryd.func39, Tryd.ntmps39
      go_wp2
      try (go_quiet (fail); go_wp2)
      go_ret
      exact ⟨rfl, by first | exact drewN_below _ _ | exact Below.refl _ _⟩
    · have HU : Hid (unT 2 t = 0) := by show _ = _; simp [unT, h1]
      go_enter Tryd.func39, Tryd.ntmps39
      go_wp2
      try (go_quiet (fail); go_wp2)
      go_ret
      exact ⟨ret_int (by rw [HU.out]), by first | exact drewN_below _ _ | exact Below.refl _ _⟩
  · by_cases h : 3 ≤ t ∧ t ≤ 10
    · have HU : Hid (unT op t = t) := by show _ = _; simp [unT, h2, h]
      obtain ⟨h3, h4⟩ := h
      go_enter Tryd.func39, Tryd.ntmps39
      go_wp2_with (first | (go_at_call 37; refine (millIsInteger_t t h3 h4 _).mono ?_; rintro e w' ⟨rfl, hw⟩; have hw2 := hw.symm; clear hw; subst hw2) | fail)
      go_ret
      exact ⟨ret_int (by rw [HU.out]), Below.refl _ _⟩
    · have HU : Hid (unT op t = 0) := by show _ = _; simp [unT, h2]; omega
      have HH := hid h
      clear h
      go_enter Tryd.func39, Tryd.ntmps39
      go_wp2_with (first | (go_at_call 37; refine (millIsInteger_f t HH.out _).mono ?_; rintro e w' ⟨rfl, hw⟩; have hw2 := hw.symm; clear hw; subst hw2) | fail)
      go_ret
      exact ⟨ret_int (by rw [HU.out]), Below.refl _ _⟩
end Go.Proofs.YtcjgmmiafflgnaaDoor.V
