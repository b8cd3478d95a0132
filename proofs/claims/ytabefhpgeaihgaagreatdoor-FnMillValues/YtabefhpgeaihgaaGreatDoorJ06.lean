import Derived.Test.YtabefhpgeaihgaaGreatDoorJ03
/-! Printed by gen_vcnt.py. -/
namespace Go.Proofs.YtabefhpgeaihgaaGreatDoor.V
open Go.RowKit Go.Shelf
set_option maxRecDepth 20000
set_option maxHeartbeats 1000000 in
theorem cnt_i32_add (a b : Int) (_h1 : -2147483648 ≤ a) (_h2 : a ≤ 2147483647) (_h3 : -2147483648 ≤ b) (_h4 : b ≤ 2147483647) (w : World) :
    Calls Tryz.prog 88 #[.int .i64 9, .int .i32 a, .int .i32 b] w fun e w' => e = .returned (.tuple #[.int .i32 (cntK .i32 9 a b), .nilIface]) ∧ w' = w := by
  go_enter Tryz.func88, Tryz.ntmps88
  go_wp2
  exact bodyPost_ret (v := .tuple #[.int .i32 (cntK .i32 9 a b), .nilIface]) (by simp [results, Tryz.results88, go_sem, cntK] <;> first | exact (IntKind.wrap_u8 _).symm | exact (IntKind.wrap_u32 _).symm | exact (IntWalk.i32_left _).symm | exact (IntWalk.i64_left _).symm | exact (Int.fdiv_eq_ediv_of_nonneg _ (Int.pow_nonneg (by decide))).symm | exact (quo_u (by decide) (by omega) (by simp [IntKind.max, IntKind.signed, IntKind.bits]; omega) (by omega)).symm | exact (IntWalk.rem_in a b (by omega)).symm | rfl) rfl ⟨rfl, rfl⟩
set_option maxHeartbeats 1000000 in
theorem cnt_i32_sub (a b : Int) (_h1 : -2147483648 ≤ a) (_h2 : a ≤ 2147483647) (_h3 : -2147483648 ≤ b) (_h4 : b ≤ 2147483647) (w : World) :
    Calls Tryz.prog 88 #[.int .i64 10, .int .i32 a, .int .i32 b] w fun e w' => e = .returned (.tuple #[.int .i32 (cntK .i32 10 a b), .nilIface]) ∧ w' = w := by
  go_enter Tryz.func88, Tryz.ntmps88
  go_wp2
  exact bodyPost_ret (v := .tuple #[.int .i32 (cntK .i32 10 a b), .nilIface]) (by simp [results, Tryz.results88, go_sem, cntK] <;> first | exact (IntKind.wrap_u8 _).symm | exact (IntKind.wrap_u32 _).symm | exact (IntWalk.i32_left _).symm | exact (IntWalk.i64_left _).symm | exact (Int.fdiv_eq_ediv_of_nonneg _ (Int.pow_nonneg (by decide))).symm | exact (quo_u (by decide) (by omega) (by simp [IntKind.max, IntKind.signed, IntKind.bits]; omega) (by omega)).symm | exact (IntWalk.rem_in a b (by omega)).symm | rfl) rfl ⟨rfl, rfl⟩
set_option maxHeartbeats 1000000 in
theorem cnt_i32_or (a b : Int) (_h1 : -2147483648 ≤ a) (_h2 : a ≤ 2147483647) (_h3 : -2147483648 ≤ b) (_h4 : b ≤ 2147483647) (w : World) :
    Calls Tryz.prog 88 #[.int .i64 11, .int .i32 a, .int .i32 b] w fun e w' => e = .returned (.tuple #[.int .i32 (cntK .i32 11 a b), .nilIface]) ∧ w' = w := by
  go_enter Tryz.func88, Tryz.ntmps88
  go_wp2
  exact bodyPost_ret (v := .tuple #[.int .i32 (cntK .i32 11 a b), .nilIface]) (by simp [results, Tryz.results88, go_sem, cntK] <;> first | exact (IntKind.wrap_u8 _).symm | exact (IntKind.wrap_u32 _).symm | exact (IntWalk.i32_left _).symm | exact (IntWalk.i64_left _).symm | exact (Int.fdiv_eq_ediv_of_nonneg _ (Int.pow_nonneg (by decide))).symm | exact (quo_u (by decide) (by omega) (by simp [IntKind.max, IntKind.signed, IntKind.bits]; omega) (by omega)).symm | exact (IntWalk.rem_in a b (by omega)).symm | rfl) rfl ⟨rfl, rfl⟩
set_option maxHeartbeats 1000000 in
theorem cnt_i32_xor (a b : Int) (_h1 : -2147483648 ≤ a) (_h2 : a ≤ 2147483647) (_h3 : -2147483648 ≤ b) (_h4 : b ≤ 2147483647) (w : World) :
    Calls Tryz.prog 88 #[.int .i64 12, .int .i32 a, .int .i32 b] w fun e w' => e = .returned (.tuple #[.int .i32 (cntK .i32 12 a b), .nilIface]) ∧ w' = w := by
  go_enter Tryz.func88, Tryz.ntmps88
  go_wp2
  exact bodyPost_ret (v := .tuple #[.int .i32 (cntK .i32 12 a b), .nilIface]) (by simp [results, Tryz.results88, go_sem, cntK] <;> first | exact (IntKind.wrap_u8 _).symm | exact (IntKind.wrap_u32 _).symm | exact (IntWalk.i32_left _).symm | exact (IntWalk.i64_left _).symm | exact (Int.fdiv_eq_ediv_of_nonneg _ (Int.pow_nonneg (by decide))).symm | exact (quo_u (by decide) (by omega) (by simp [IntKind.max, IntKind.signed, IntKind.bits]; omega) (by omega)).symm | exact (IntWalk.rem_in a b (by omega)).symm | rfl) rfl ⟨rfl, rfl⟩
set_option maxHeartbeats 1000000 in
theorem cnt_i32_mul (a b : Int) (_h1 : -2147483648 ≤ a) (_h2 : a ≤ 2147483647) (_h3 : -2147483648 ≤ b) (_h4 : b ≤ 2147483647) (w : World) :
    Calls Tryz.prog 88 #[.int .i64 13, .int .i32 a, .int .i32 b] w fun e w' => e = .returned (.tuple #[.int .i32 (cntK .i32 13 a b), .nilIface]) ∧ w' = w := by
  go_enter Tryz.func88, Tryz.ntmps88
  go_wp2
  exact bodyPost_ret (v := .tuple #[.int .i32 (cntK .i32 13 a b), .nilIface]) (by simp [results, Tryz.results88, go_sem, cntK] <;> first | exact (IntKind.wrap_u8 _).symm | exact (IntKind.wrap_u32 _).symm | exact (IntWalk.i32_left _).symm | exact (IntWalk.i64_left _).symm | exact (Int.fdiv_eq_ediv_of_nonneg _ (Int.pow_nonneg (by decide))).symm | exact (quo_u (by decide) (by omega) (by simp [IntKind.max, IntKind.signed, IntKind.bits]; omega) (by omega)).symm | exact (IntWalk.rem_in a b (by omega)).symm | rfl) rfl ⟨rfl, rfl⟩
set_option maxHeartbeats 1000000 in
theorem cnt_i32_and (a b : Int) (_h1 : -2147483648 ≤ a) (_h2 : a ≤ 2147483647) (_h3 : -2147483648 ≤ b) (_h4 : b ≤ 2147483647) (w : World) :
    Calls Tryz.prog 88 #[.int .i64 16, .int .i32 a, .int .i32 b] w fun e w' => e = .returned (.tuple #[.int .i32 (cntK .i32 16 a b), .nilIface]) ∧ w' = w := by
  go_enter Tryz.func88, Tryz.ntmps88
  go_wp2
  exact bodyPost_ret (v := .tuple #[.int .i32 (cntK .i32 16 a b), .nilIface]) (by simp [results, Tryz.results88, go_sem, cntK] <;> first | exact (IntKind.wrap_u8 _).symm | exact (IntKind.wrap_u32 _).symm | exact (IntWalk.i32_left _).symm | exact (IntWalk.i64_left _).symm | exact (Int.fdiv_eq_ediv_of_nonneg _ (Int.pow_nonneg (by decide))).symm | exact (quo_u (by decide) (by omega) (by simp [IntKind.max, IntKind.signed, IntKind.bits]; omega) (by omega)).symm | exact (IntWalk.rem_in a b (by omega)).symm | rfl) rfl ⟨rfl, rfl⟩
set_option maxHeartbeats 1000000 in
theorem cnt_i32_shl (a b : Int) (_h1 : -2147483648 ≤ a) (_h2 : a ≤ 2147483647) (_h3 : -2147483648 ≤ b) (_h4 : b ≤ 2147483647) (w : World) :
    Calls Tryz.prog 88 #[.int .i64 17, .int .i32 a, .int .i32 b] w fun e w' => e = .returned (.tuple #[.int .i32 (cntK .i32 17 a b), .nilIface]) ∧ w' = w := by
  have hs := shN_bd b (by omega) (by omega)
  have HS : Hid (∀ W, Calls Tryz.prog 108 #[.int .i32 b] W fun e w' => e = .returned (.int .u64 (shN b)) ∧ w' = W) := fun W => bits_i32 b _h3 _h4 W
  have HE : Hid (cntK .i32 17 a b = cntS .i32 17 a (shN b)) := rfl
  generalize shN b = q at *
  go_enter Tryz.func88, Tryz.ntmps88
  go_wp2_with (first | (go_at_call 108; refine (HS.out _).mono ?_; rintro e w' ⟨rfl, hw⟩; have hw2 := hw.symm; clear hw; subst hw2) | fail)
  exact bodyPost_ret (v := .tuple #[.int .i32 (cntK .i32 17 a b), .nilIface]) (by rw [HE.out]; simp [results, Tryz.results88, go_sem, cntS] <;> first | exact (IntKind.wrap_u8 _).symm | exact (IntKind.wrap_u32 _).symm | exact (IntWalk.i32_left _).symm | exact (IntWalk.i64_left _).symm | exact (Int.fdiv_eq_ediv_of_nonneg _ (Int.pow_nonneg (by decide))).symm | exact (quo_u (by decide) (by omega) (by simp [IntKind.max, IntKind.signed, IntKind.bits]; omega) (by omega)).symm | exact (IntWalk.rem_in a b (by omega)).symm | rfl) rfl ⟨rfl, rfl⟩
set_option maxHeartbeats 1000000 in
theorem cnt_i32_shr (a b : Int) (_h1 : -2147483648 ≤ a) (_h2 : a ≤ 2147483647) (_h3 : -2147483648 ≤ b) (_h4 : b ≤ 2147483647) (w : World) :
    Calls Tryz.prog 88 #[.int .i64 18, .int .i32 a, .int .i32 b] w fun e w' => e = .returned (.tuple #[.int .i32 (cntK .i32 18 a b), .nilIface]) ∧ w' = w := by
  have hs := shN_bd b (by omega) (by omega)
  have HS : Hid (∀ W, Calls Tryz.prog 108 #[.int .i32 b] W fun e w' => e = .returned (.int .u64 (shN b)) ∧ w' = W) := fun W => bits_i32 b _h3 _h4 W
  have HE : Hid (cntK .i32 18 a b = cntS .i32 18 a (shN b)) := rfl
  generalize shN b = q at *
  go_enter Tryz.func88, Tryz.ntmps88
  go_wp2_with (first | (go_at_call 108; refine (HS.out _).mono ?_; rintro e w' ⟨rfl, hw⟩; have hw2 := hw.symm; clear hw; subst hw2) | fail)
  exact bodyPost_ret (v := .tuple #[.int .i32 (cntK .i32 18 a b), .nilIface]) (by rw [HE.out]; simp [results, Tryz.results88, go_sem, cntS] <;> first | exact (IntKind.wrap_u8 _).symm | exact (IntKind.wrap_u32 _).symm | exact (IntWalk.i32_left _).symm | exact (IntWalk.i64_left _).symm | exact (Int.fdiv_eq_ediv_of_nonneg _ (Int.pow_nonneg (by decide))).symm | exact (quo_u (by decide) (by omega) (by simp [IntKind.max, IntKind.signed, IntKind.bits]; omega) (by omega)).symm | exact (IntWalk.rem_in a b (by omega)).symm | rfl) rfl ⟨rfl, rfl⟩
set_option maxHeartbeats 1000000 in
theorem cnt_i32_quo (a b : Int) (_h1 : -2147483648 ≤ a) (_h2 : a ≤ 2147483647) (_h3 : -2147483648 ≤ b) (_h4 : b ≤ 2147483647) (_hb : b ≠ 0) (w : World) :
    Calls Tryz.prog 88 #[.int .i64 14, .int .i32 a, .int .i32 b] w fun e w' => e = .returned (.tuple #[.int .i32 (cntK .i32 14 a b), .nilIface]) ∧ w' = w := by
  go_enter Tryz.func88, Tryz.ntmps88
  go_wp2
  exact bodyPost_ret (v := .tuple #[.int .i32 (cntK .i32 14 a b), .nilIface]) (by simp [results, Tryz.results88, go_sem, cntK] <;> first | exact (IntKind.wrap_u8 _).symm | exact (IntKind.wrap_u32 _).symm | exact (IntWalk.i32_left _).symm | exact (IntWalk.i64_left _).symm | exact (Int.fdiv_eq_ediv_of_nonneg _ (Int.pow_nonneg (by decide))).symm | exact (quo_u (by decide) (by omega) (by simp [IntKind.max, IntKind.signed, IntKind.bits]; omega) (by omega)).symm | exact (IntWalk.rem_in a b (by omega)).symm | rfl) rfl ⟨rfl, rfl⟩
set_option maxHeartbeats 1000000 in
theorem cnt_i32_rem (a b : Int) (_h1 : -2147483648 ≤ a) (_h2 : a ≤ 2147483647) (_h3 : -2147483648 ≤ b) (_h4 : b ≤ 2147483647) (_hb : b ≠ 0) (w : World) :
    Calls Tryz.prog 88 #[.int .i64 15, .int .i32 a, .int .i32 b] w fun e w' => e = .returned (.tuple #[.int .i32 (cntK .i32 15 a b), .nilIface]) ∧ w' = w := by
  go_enter Tryz.func88, Tryz.ntmps88
  go_wp2
  exact bodyPost_ret (v := .tuple #[.int .i32 (cntK .i32 15 a b), .nilIface]) (by simp [results, Tryz.results88, go_sem, cntK] <;> first | exact (IntKind.wrap_u8 _).symm | exact (IntKind.wrap_u32 _).symm | exact (IntWalk.i32_left _).symm | exact (IntWalk.i64_left _).symm | exact (Int.fdiv_eq_ediv_of_nonneg _ (Int.pow_nonneg (by decide))).symm | exact (quo_u (by decide) (by omega) (by simp [IntKind.max, IntKind.signed, IntKind.bits]; omega) (by omega)).symm | exact (IntWalk.rem_in a b (by omega)).symm | rfl) rfl ⟨rfl, rfl⟩
end Go.Proofs.YtabefhpgeaihgaaGreatDoor.V
