import Derived.Test.YtabefhpgeaihgaaGreatDoorJ03
/-! Printed by gen_vcnt.py. -/
namespace Go.Proofs.YtabefhpgeaihgaaGreatDoor.V
open Go.RowKit Go.Shelf
set_option maxRecDepth 20000
set_option maxHeartbeats 1000000 in
theorem cnt_i64_add (a b : Int) (_h1 : -9223372036854775808 ≤ a) (_h2 : a ≤ 9223372036854775807) (_h3 : -9223372036854775808 ≤ b) (_h4 : b ≤ 9223372036854775807) (w : World) :
    Calls Tryz.prog 89 #[.int .i64 9, .int .i64 a, .int .i64 b] w fun e w' => e = .returned (.tuple #[.int .i64 (cntK .i64 9 a b), .nilIface]) ∧ w' = w := by
  go_enter Tryz.func89, Tryz.ntmps89
  go_wp2
  exact bodyPost_ret (v := .tuple #[.int .i64 (cntK .i64 9 a b), .nilIface]) (by simp [results, Tryz.results89, go_sem, cntK] <;> first | exact (IntKind.wrap_u8 _).symm | exact (IntKind.wrap_u32 _).symm | exact (IntWalk.i32_left _).symm | exact (IntWalk.i64_left _).symm | exact (Int.fdiv_eq_ediv_of_nonneg _ (Int.pow_nonneg (by decide))).symm | exact (quo_u (by decide) (by omega) (by simp [IntKind.max, IntKind.signed, IntKind.bits]; omega) (by omega)).symm | exact (IntWalk.rem_in a b (by omega)).symm | rfl) rfl ⟨rfl, rfl⟩
set_option maxHeartbeats 1000000 in
theorem cnt_i64_sub (a b : Int) (_h1 : -9223372036854775808 ≤ a) (_h2 : a ≤ 9223372036854775807) (_h3 : -9223372036854775808 ≤ b) (_h4 : b ≤ 9223372036854775807) (w : World) :
    Calls Tryz.prog 89 #[.int .i64 10, .int .i64 a, .int .i64 b] w fun e w' => e = .returned (.tuple #[.int .i64 (cntK .i64 10 a b), .nilIface]) ∧ w' = w := by
  go_enter Tryz.func89, Tryz.ntmps89
  go_wp2
  exact bodyPost_ret (v := .tuple #[.int .i64 (cntK .i64 10 a b), .nilIface]) (by simp [results, Tryz.results89, go_sem, cntK] <;> first | exact (IntKind.wrap_u8 _).symm | exact (IntKind.wrap_u32 _).symm | exact (IntWalk.i32_left _).symm | exact (IntWalk.i64_left _).symm | exact (Int.fdiv_eq_ediv_of_nonneg _ (Int.pow_nonneg (by decide))).symm | exact (quo_u (by decide) (by omega) (by simp [IntKind.max, IntKind.signed, IntKind.bits]; omega) (by omega)).symm | exact (IntWalk.rem_in a b (by omega)).symm | rfl) rfl ⟨rfl, rfl⟩
set_option maxHeartbeats 1000000 in
theorem cnt_i64_or (a b : Int) (_h1 : -9223372036854775808 ≤ a) (_h2 : a ≤ 9223372036854775807) (_h3 : -9223372036854775808 ≤ b) (_h4 : b ≤ 9223372036854775807) (w : World) :
    Calls Tryz.prog 89 #[.int .i64 11, .int .i64 a, .int .i64 b] w fun e w' => e = .returned (.tuple #[.int .i64 (cntK .i64 11 a b), .nilIface]) ∧ w' = w := by
  go_enter Tryz.func89, Tryz.ntmps89
  go_wp2
  exact bodyPost_ret (v := .tuple #[.int .i64 (cntK .i64 11 a b), .nilIface]) (by simp [results, Tryz.results89, go_sem, cntK] <;> first | exact (IntKind.wrap_u8 _).symm | exact (IntKind.wrap_u32 _).symm | exact (IntWalk.i32_left _).symm | exact (IntWalk.i64_left _).symm | exact (Int.fdiv_eq_ediv_of_nonneg _ (Int.pow_nonneg (by decide))).symm | exact (quo_u (by decide) (by omega) (by simp [IntKind.max, IntKind.signed, IntKind.bits]; omega) (by omega)).symm | exact (IntWalk.rem_in a b (by omega)).symm | rfl) rfl ⟨rfl, rfl⟩
set_option maxHeartbeats 1000000 in
theorem cnt_i64_xor (a b : Int) (_h1 : -9223372036854775808 ≤ a) (_h2 : a ≤ 9223372036854775807) (_h3 : -9223372036854775808 ≤ b) (_h4 : b ≤ 9223372036854775807) (w : World) :
    Calls Tryz.prog 89 #[.int .i64 12, .int .i64 a, .int .i64 b] w fun e w' => e = .returned (.tuple #[.int .i64 (cntK .i64 12 a b), .nilIface]) ∧ w' = w := by
  go_enter Tryz.func89, Tryz.ntmps89
  go_wp2
  exact bodyPost_ret (v := .tuple #[.int .i64 (cntK .i64 12 a b), .nilIface]) (by simp [results, Tryz.results89, go_sem, cntK] <;> first | exact (IntKind.wrap_u8 _).symm | exact (IntKind.wrap_u32 _).symm | exact (IntWalk.i32_left _).symm | exact (IntWalk.i64_left _).symm | exact (Int.fdiv_eq_ediv_of_nonneg _ (Int.pow_nonneg (by decide))).symm | exact (quo_u (by decide) (by omega) (by simp [IntKind.max, IntKind.signed, IntKind.bits]; omega) (by omega)).symm | exact (IntWalk.rem_in a b (by omega)).symm | rfl) rfl ⟨rfl, rfl⟩
set_option maxHeartbeats 1000000 in
theorem cnt_i64_mul (a b : Int) (_h1 : -9223372036854775808 ≤ a) (_h2 : a ≤ 9223372036854775807) (_h3 : -9223372036854775808 ≤ b) (_h4 : b ≤ 9223372036854775807) (w : World) :
    Calls Tryz.prog 89 #[.int .i64 13, .int .i64 a, .int .i64 b] w fun e w' => e = .returned (.tuple #[.int .i64 (cntK .i64 13 a b), .nilIface]) ∧ w' = w := by
  go_enter Tryz.func89, Tryz.ntmps89
  go_wp2
  exact bodyPost_ret (v := .tuple #[.int .i64 (cntK .i64 13 a b), .nilIface]) (by simp [results, Tryz.results89, go_sem, cntK] <;> first | exact (IntKind.wrap_u8 _).symm | exact (IntKind.wrap_u32 _).symm | exact (IntWalk.i32_left _).symm | exact (IntWalk.i64_left _).symm | exact (Int.fdiv_eq_ediv_of_nonneg _ (Int.pow_nonneg (by decide))).symm | exact (quo_u (by decide) (by omega) (by simp [IntKind.max, IntKind.signed, IntKind.bits]; omega) (by omega)).symm | exact (IntWalk.rem_in a b (by omega)).symm | rfl) rfl ⟨rfl, rfl⟩
set_option maxHeartbeats 1000000 in
theorem cnt_i64_and (a b : Int) (_h1 : -9223372036854775808 ≤ a) (_h2 : a ≤ 9223372036854775807) (_h3 : -9223372036854775808 ≤ b) (_h4 : b ≤ 9223372036854775807) (w : World) :
    Calls Tryz.prog 89 #[.int .i64 16, .int .i64 a, .int .i64 b] w fun e w' => e = .returned (.tuple #[.int .i64 (cntK .i64 16 a b), .nilIface]) ∧ w' = w := by
  go_enter Tryz.func89, Tryz.ntmps89
  go_wp2
  exact bodyPost_ret (v := .tuple #[.int .i64 (cntK .i64 16 a b), .nilIface]) (by simp [results, Tryz.results89, go_sem, cntK] <;> first | exact (IntKind.wrap_u8 _).symm | exact (IntKind.wrap_u32 _).symm | exact (IntWalk.i32_left _).symm | exact (IntWalk.i64_left _).symm | exact (Int.fdiv_eq_ediv_of_nonneg _ (Int.pow_nonneg (by decide))).symm | exact (quo_u (by decide) (by omega) (by simp [IntKind.max, IntKind.signed, IntKind.bits]; omega) (by omega)).symm | exact (IntWalk.rem_in a b (by omega)).symm | rfl) rfl ⟨rfl, rfl⟩
set_option maxHeartbeats 1000000 in
theorem cnt_i64_shl (a b : Int) (_h1 : -9223372036854775808 ≤ a) (_h2 : a ≤ 9223372036854775807) (_h3 : -9223372036854775808 ≤ b) (_h4 : b ≤ 9223372036854775807) (w : World) :
    Calls Tryz.prog 89 #[.int .i64 17, .int .i64 a, .int .i64 b] w fun e w' => e = .returned (.tuple #[.int .i64 (cntK .i64 17 a b), .nilIface]) ∧ w' = w := by
  have hs := shN_bd b (by omega) (by omega)
  have HS : Hid (∀ W, Calls Tryz.prog 109 #[.int .i64 b] W fun e w' => e = .returned (.int .u64 (shN b)) ∧ w' = W) := fun W => bits_i64 b _h3 _h4 W
  have HE : Hid (cntK .i64 17 a b = cntS .i64 17 a (shN b)) := rfl
  generalize shN b = q at *
  go_enter Tryz.func89, Tryz.ntmps89
  go_wp2_with (first | (go_at_call 109; refine (HS.out _).mono ?_; rintro e w' ⟨rfl, hw⟩; have hw2 := hw.symm; clear hw; subst hw2) | fail)
  exact bodyPost_ret (v := .tuple #[.int .i64 (cntK .i64 17 a b), .nilIface]) (by rw [HE.out]; simp [results, Tryz.results89, go_sem, cntS] <;> first | exact (IntKind.wrap_u8 _).symm | exact (IntKind.wrap_u32 _).symm | exact (IntWalk.i32_left _).symm | exact (IntWalk.i64_left _).symm | exact (Int.fdiv_eq_ediv_of_nonneg _ (Int.pow_nonneg (by decide))).symm | exact (quo_u (by decide) (by omega) (by simp [IntKind.max, IntKind.signed, IntKind.bits]; omega) (by omega)).symm | exact (IntWalk.rem_in a b (by omega)).symm | rfl) rfl ⟨rfl, rfl⟩
set_option maxHeartbeats 1000000 in
theorem cnt_i64_shr (a b : Int) (_h1 : -9223372036854775808 ≤ a) (_h2 : a ≤ 9223372036854775807) (_h3 : -9223372036854775808 ≤ b) (_h4 : b ≤ 9223372036854775807) (w : World) :
    Calls Tryz.prog 89 #[.int .i64 18, .int .i64 a, .int .i64 b] w fun e w' => e = .returned (.tuple #[.int .i64 (cntK .i64 18 a b), .nilIface]) ∧ w' = w := by
  have hs := shN_bd b (by omega) (by omega)
  have HS : Hid (∀ W, Calls Tryz.prog 109 #[.int .i64 b] W fun e w' => e = .returned (.int .u64 (shN b)) ∧ w' = W) := fun W => bits_i64 b _h3 _h4 W
  have HE : Hid (cntK .i64 18 a b = cntS .i64 18 a (shN b)) := rfl
  generalize shN b = q at *
  go_enter Tryz.func89, Tryz.ntmps89
  go_wp2_with (first | (go_at_call 109; refine (HS.out _).mono ?_; rintro e w' ⟨rfl, hw⟩; have hw2 := hw.symm; clear hw; subst hw2) | fail)
  exact bodyPost_ret (v := .tuple #[.int .i64 (cntK .i64 18 a b), .nilIface]) (by rw [HE.out]; simp [results, Tryz.results89, go_sem, cntS] <;> first | exact (IntKind.wrap_u8 _).symm | exact (IntKind.wrap_u32 _).symm | exact (IntWalk.i32_left _).symm | exact (IntWalk.i64_left _).symm | exact (Int.fdiv_eq_ediv_of_nonneg _ (Int.pow_nonneg (by decide))).symm | exact (quo_u (by decide) (by omega) (by simp [IntKind.max, IntKind.signed, IntKind.bits]; omega) (by omega)).symm | exact (IntWalk.rem_in a b (by omega)).symm | rfl) rfl ⟨rfl, rfl⟩
set_option maxHeartbeats 1000000 in
theorem cnt_i64_quo (a b : Int) (_h1 : -9223372036854775808 ≤ a) (_h2 : a ≤ 9223372036854775807) (_h3 : -9223372036854775808 ≤ b) (_h4 : b ≤ 9223372036854775807) (_hb : b ≠ 0) (w : World) :
    Calls Tryz.prog 89 #[.int .i64 14, .int .i64 a, .int .i64 b] w fun e w' => e = .returned (.tuple #[.int .i64 (cntK .i64 14 a b), .nilIface]) ∧ w' = w := by
  go_enter Tryz.func89, Tryz.ntmps89
  go_wp2
  exact bodyPost_ret (v := .tuple #[.int .i64 (cntK .i64 14 a b), .nilIface]) (by simp [results, Tryz.results89, go_sem, cntK] <;> first | exact (IntKind.wrap_u8 _).symm | exact (IntKind.wrap_u32 _).symm | exact (IntWalk.i32_left _).symm | exact (IntWalk.i64_left _).symm | exact (Int.fdiv_eq_ediv_of_nonneg _ (Int.pow_nonneg (by decide))).symm | exact (quo_u (by decide) (by omega) (by simp [IntKind.max, IntKind.signed, IntKind.bits]; omega) (by omega)).symm | exact (IntWalk.rem_in a b (by omega)).symm | rfl) rfl ⟨rfl, rfl⟩
set_option maxHeartbeats 1000000 in
theorem cnt_i64_rem (a b : Int) (_h1 : -9223372036854775808 ≤ a) (_h2 : a ≤ 9223372036854775807) (_h3 : -9223372036854775808 ≤ b) (_h4 : b ≤ 9223372036854775807) (_hb : b ≠ 0) (w : World) :
    Calls Tryz.prog 89 #[.int .i64 15, .int .i64 a, .int .i64 b] w fun e w' => e = .returned (.tuple #[.int .i64 (cntK .i64 15 a b), .nilIface]) ∧ w' = w := by
  go_enter Tryz.func89, Tryz.ntmps89
  go_wp2
  exact bodyPost_ret (v := .tuple #[.int .i64 (cntK .i64 15 a b), .nilIface]) (by simp [results, Tryz.results89, go_sem, cntK] <;> first | exact (IntKind.wrap_u8 _).symm | exact (IntKind.wrap_u32 _).symm | exact (IntWalk.i32_left _).symm | exact (IntWalk.i64_left _).symm | exact (Int.fdiv_eq_ediv_of_nonneg _ (Int.pow_nonneg (by decide))).symm | exact (quo_u (by decide) (by omega) (by simp [IntKind.max, IntKind.signed, IntKind.bits]; omega) (by omega)).symm | exact (IntWalk.rem_in a b (by omega)).symm | rfl) rfl ⟨rfl, rfl⟩
end Go.Proofs.YtabefhpgeaihgaaGreatDoor.V
