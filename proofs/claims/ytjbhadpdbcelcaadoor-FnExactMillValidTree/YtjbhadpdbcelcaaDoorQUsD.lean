import Derived.Test.YtjbhadpdbcelcaaDoorQUsU
/-! Printed by gen_fld.py. -/
namespace Go.Proofs.YtjbhadpdbcelcaaDoor.Q
open Go.RowKit Go.Shelf
set_option maxRecDepth 20000
set_option maxHeartbeats 8000000 in
theorem us_E (k : Int) (hk : k < 1 ∨ 24 < k) : UF k := by
  intro op ty n kids t r w ht hr
  have hn : ∀ x : Int, 1 ≤ x → x ≤ 24 → (k == x) = false := fun x h1 h2 => by rw [beq_eq_false_iff_ne]; omega
  have n1 := hn 1 (by decide) (by decide)
  have n2 := hn 2 (by decide) (by decide)
  have n3 := hn 3 (by decide) (by decide)
  have n4 := hn 4 (by decide) (by decide)
  have n5 := hn 5 (by decide) (by decide)
  have n6 := hn 6 (by decide) (by decide)
  have n7 := hn 7 (by decide) (by decide)
  have n8 := hn 8 (by decide) (by decide)
  have n9 := hn 9 (by decide) (by decide)
  have n10 := hn 10 (by decide) (by decide)
  have n11 := hn 11 (by decide) (by decide)
  have n12 := hn 12 (by decide) (by decide)
  have n13 := hn 13 (by decide) (by decide)
  have n14 := hn 14 (by decide) (by decide)
  have n15 := hn 15 (by decide) (by decide)
  have n16 := hn 16 (by decide) (by decide)
  have n17 := hn 17 (by decide) (by decide)
  have n18 := hn 18 (by decide) (by decide)
  have n19 := hn 19 (by decide) (by decide)
  have n20 := hn 20 (by decide) (by decide)
  have n21 := hn 21 (by decide) (by decide)
  have n22 := hn 22 (by decide) (by decide)
  have n23 := hn 23 (by decide) (by decide)
  have n24 := hn 24 (by decide) (by decide)
  clear hn
  have HPL := hid (plain_E k op ty n kids t hk)
  clear hk
  clear ht hr
  unfold ndV
  go_enter Tryd.func15, Tryd.ntmps15
  go_wp2
  all_goals go_ret
  all_goals first
    | (refine ⟨says_t ?_, below_two _ _ _⟩; rw [HPL.out]; simp [*]; done)
    | (refine ⟨says_f ?_, below_two _ _ _⟩; rw [HPL.out]; simp [*]; done)
    | (refine ⟨says_t ?_, below_two _ _ _⟩; rw [HPL.out]; (try simp [*]); omega)
    | (refine ⟨says_f ?_, below_two _ _ _⟩; rw [HPL.out]; (try simp [*]); (try intros); omega)
set_option maxHeartbeats 1000000 in
theorem hasLit_t (T : Nat) (h3 : 3 ≤ T) (h10 : T ≤ 10) (n : Int) (w : World) :
    Calls Tryd.prog 30 #[.int .i64 T, .int .i64 n] w fun e w' => e = .returned (.bool (decide (IntKind.u64.wrap n ≤ (mmax T : Int)))) ∧ w' = w := by
  have HI : Hid (∀ W, Calls Tryd.prog 32 #[.int .i64 T] W fun e w' => e = .returned (.bool true) ∧ w' = W) := fun W => (millIsInteger_int T W).mono fun e w' ⟨h1, h2⟩ => ⟨by rw [h1]; exact ret_bool (by simp; omega), h2⟩
  have HG := hid (millGreatest_any T h3 h10)
  go_enter Tryd.func30, Tryd.ntmps30
  go_wp2_with (first
    | (go_at_call 32; refine (HI.out _).mono ?_; rintro e w' ⟨rfl, hw⟩; have hw2 := hw.symm; clear hw; subst hw2)
    | (go_at_call 43; refine (HG.out _).mono ?_; rintro e w' ⟨rfl, hw⟩; have hw2 := hw.symm; clear hw; subst hw2)
    | fail)
  go_ret
  exact ⟨rfl, rfl⟩
set_option maxHeartbeats 1000000 in
theorem hasLit_f (ty : Int) (hT : ¬ (3 ≤ ty ∧ ty ≤ 10)) (n : Int) (w : World) :
    Calls Tryd.prog 30 #[.int .i64 ty, .int .i64 n] w fun e w' => e = .returned (.bool false) ∧ w' = w := by
  have HI : Hid (∀ W, Calls Tryd.prog 32 #[.int .i64 ty] W fun e w' => e = .returned (.bool false) ∧ w' = W) := fun W => (millIsInteger_int ty W).mono fun e w' ⟨h1, h2⟩ => ⟨by rw [h1]; exact ret_bool (by simp; omega), h2⟩
  clear hT
  go_enter Tryd.func30, Tryd.ntmps30
  go_wp2_with (first
    | (go_at_call 32; refine (HI.out _).mono ?_; rintro e w' ⟨rfl, hw⟩; have hw2 := hw.symm; clear hw; subst hw2)
    | fail)
  go_ret
  exact ⟨rfl, rfl⟩
set_option maxHeartbeats 4000000 in
theorem us_1 : UF 1 := by
  intro op ty n kids t r w ht hr
  clear ht hr
  unfold ndV
  have HP0 := hid (plain_1 op ty n kids t)
  obtain ⟨B, HL, HB0⟩ : ∃ B : Bool, Hid (∀ W, Calls Tryd.prog 30 #[.int .i64 ty, .int .i64 n] W fun e w' => e = .returned (.bool B) ∧ w' = W) ∧ Hid (NumOk ty n ↔ B = true) := by
    by_cases hT : 3 ≤ ty ∧ ty ≤ 10
    · obtain ⟨T, rfl⟩ := Int.eq_ofNat_of_zero_le (show 0 ≤ ty by omega)
      have h3 : 3 ≤ T := by omega
      have h10 : T ≤ 10 := by omega
      exact ⟨_, hasLit_t T h3 h10 n, by show _ ↔ _; rw [num_T T h3 h10 n]; simp⟩
    · refine ⟨false, hasLit_f ty hT n, ?_⟩
      show _ ↔ _
      constructor
      · rintro ⟨T, e, h3, h10, _⟩; omega
      · intro h; cases h
  rw [HB0.out] at HP0
  clear HB0
  cases B
  all_goals go_enter Tryd.func15, Tryd.ntmps15
  all_goals go_wp2
  all_goals go_region
  all_goals have hz := two_rows (Below.refl _ ((w.alloc (.cells #[.int .i64 1, .int .i64 op, .int .i64 ty, .int .i64 n, .string t, .int .i64 kids] 39)).alloc (.cells #[.int .i64 1, .int .i64 0, .int .i64 ty, .int .i64 n, .string ⟨#[]⟩, .int .i64 kids] 39))).drew
  all_goals generalize ((w.alloc (.cells #[.int .i64 1, .int .i64 op, .int .i64 ty, .int .i64 n, .string t, .int .i64 kids] 39)).alloc (.cells #[.int .i64 1, .int .i64 0, .int .i64 ty, .int .i64 n, .string ⟨#[]⟩, .int .i64 kids] 39)).drew = W at hz ⊢
  all_goals obtain ⟨⟨k0, k1, k2, k3, k4, k5⟩, ⟨l0, l1, l2, l3, l4, l5⟩, hb⟩ := hz
  all_goals have HB := hid hb
  all_goals clear hb
  all_goals go_wp2_with (first
    | (go_at_call 30; refine (HL.out _).mono ?_; rintro e w' ⟨rfl, hw⟩; have hw2 := hw.symm; clear hw; subst hw2)
    | fail)
  all_goals go_ret
  all_goals first
    | (refine ⟨says_t ?_, HB.out⟩; rw [HP0.out]; simp [*]; done)
    | (refine ⟨says_f ?_, HB.out⟩; rw [HP0.out]; simp [*]; done)
    | (refine ⟨says_t ?_, HB.out⟩; rw [HP0.out]; simp [*]; omega)
    | (refine ⟨says_f ?_, HB.out⟩; rw [HP0.out]; simp [*]; omega)
end Go.Proofs.YtjbhadpdbcelcaaDoor.Q
