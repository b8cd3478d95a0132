import Derived.Test.YtabefhpgeaihgaaGreatDoorJ03
/-! Printed by gen_vcnt.py. -/
namespace Go.Proofs.YtabefhpgeaihgaaGreatDoor.V
open Go.RowKit Go.Shelf
set_option maxRecDepth 20000
set_option maxHeartbeats 1000000 in
theorem cnt_u32_add (a b : Int) (_h1 : 0 ≤ a) (_h2 : a ≤ 4294967295) (_h3 : 0 ≤ b) (_h4 : b ≤ 4294967295) (w : World) :
    Calls Tryz.prog 80 #[.int .i64 9, .int .u32 a, .int .u32 b] w fun e w' => e = .returned (.tuple #[.int .u32 (cntK .u32 9 a b), .nilIface]) ∧ w' = w := by
  go_enter Tryz.func80, Tryz.ntmps80
  go_wp2
  exact bodyPost_ret (v := .tuple #[.int .u32 (cntK .u32 9 a b), .nilIface]) (by simp [results, Tryz.results80, go_sem, cntK] <;> first | exact (IntKind.wrap_u8 _).symm | exact (IntKind.wrap_u32 _).symm | exact (IntWalk.i32_left _).symm | exact (IntWalk.i64_left _).symm | exact (Int.fdiv_eq_ediv_of_nonneg _ (Int.pow_nonneg (by decide))).symm | exact (quo_u (by decide) (by omega) (by simp [IntKind.max, IntKind.signed, IntKind.bits]; omega) (by omega)).symm | exact (IntWalk.rem_in a b (by omega)).symm | rfl) rfl ⟨rfl, rfl⟩
set_option maxHeartbeats 1000000 in
theorem cnt_u32_sub (a b : Int) (_h1 : 0 ≤ a) (_h2 : a ≤ 4294967295) (_h3 : 0 ≤ b) (_h4 : b ≤ 4294967295) (w : World) :
    Calls Tryz.prog 80 #[.int .i64 10, .int .u32 a, .int .u32 b] w fun e w' => e = .returned (.tuple #[.int .u32 (cntK .u32 10 a b), .nilIface]) ∧ w' = w := by
  go_enter Tryz.func80, Tryz.ntmps80
  go_wp2
  exact bodyPost_ret (v := .tuple #[.int .u32 (cntK .u32 10 a b), .nilIface]) (by simp [results, Tryz.results80, go_sem, cntK] <;> first | exact (IntKind.wrap_u8 _).symm | exact (IntKind.wrap_u32 _).symm | exact (IntWalk.i32_left _).symm | exact (IntWalk.i64_left _).symm | exact (Int.fdiv_eq_ediv_of_nonneg _ (Int.pow_nonneg (by decide))).symm | exact (quo_u (by decide) (by omega) (by simp [IntKind.max, IntKind.signed, IntKind.bits]; omega) (by omega)).symm | exact (IntWalk.rem_in a b (by omega)).symm | rfl) rfl ⟨rfl, rfl⟩
set_option maxHeartbeats 1000000 in
theorem cnt_u32_or (a b : Int) (_h1 : 0 ≤ a) (_h2 : a ≤ 4294967295) (_h3 : 0 ≤ b) (_h4 : b ≤ 4294967295) (w : World) :
    Calls Tryz.prog 80 #[.int .i64 11, .int .u32 a, .int .u32 b] w fun e w' => e = .returned (.tuple #[.int .u32 (cntK .u32 11 a b), .nilIface]) ∧ w' = w := by
  go_enter Tryz.func80, Tryz.ntmps80
  go_wp2
  exact bodyPost_ret (v := .tuple #[.int .u32 (cntK .u32 11 a b), .nilIface]) (by simp [results, Tryz.results80, go_sem, cntK] <;> first | exact (IntKind.wrap_u8 _).symm | exact (IntKind.wrap_u32 _).symm | exact (IntWalk.i32_left _).symm | exact (IntWalk.i64_left _).symm | exact (Int.fdiv_eq_ediv_of_nonneg _ (Int.pow_nonneg (by decide))).symm | exact (quo_u (by decide) (by omega) (by simp [IntKind.max, IntKind.signed, IntKind.bits]; omega) (by omega)).symm | exact (IntWalk.rem_in a b (by omega)).symm | rfl) rfl ⟨rfl, rfl⟩
set_option maxHeartbeats 1000000 in
theorem cnt_u32_xor (a b : Int) (_h1 : 0 ≤ a) (_h2 : a ≤ 4294967295) (_h3 : 0 ≤ b) (_h4 : b ≤ 4294967295) (w : World) :
    Calls Tryz.prog 80 #[.int .i64 12, .int .u32 a, .int .u32 b] w fun e w' => e = .returned (.tuple #[.int .u32 (cntK .u32 12 a b), .nilIface]) ∧ w' = w := by
  go_enter Tryz.func80, Tryz.ntmps80
  go_wp2
  exact bodyPost_ret (v := .tuple #[.int .u32 (cntK .u32 12 a b), .nilIface]) (by simp [results, Tryz.results80, go_sem, cntK] <;> first | exact (IntKind.wrap_u8 _).symm | exact (IntKind.wrap_u32 _).symm | exact (IntWalk.i32_left _).symm | exact (IntWalk.i64_left _).symm | exact (Int.fdiv_eq_ediv_of_nonneg _ (Int.pow_nonneg (by decide))).symm | exact (quo_u (by decide) (by omega) (by simp [IntKind.max, IntKind.signed, IntKind.bits]; omega) (by omega)).symm | exact (IntWalk.rem_in a b (by omega)).symm | rfl) rfl ⟨rfl, rfl⟩
set_option maxHeartbeats 1000000 in
theorem cnt_u32_mul (a b : Int) (_h1 : 0 ≤ a) (_h2 : a ≤ 4294967295) (_h3 : 0 ≤ b) (_h4 : b ≤ 4294967295) (w : World) :
    Calls Tryz.prog 80 #[.int .i64 13, .int .u32 a, .int .u32 b] w fun e w' => e = .returned (.tuple #[.int .u32 (cntK .u32 13 a b), .nilIface]) ∧ w' = w := by
  go_enter Tryz.func80, Tryz.ntmps80
  go_wp2
  exact bodyPost_ret (v := .tuple #[.int .u32 (cntK .u32 13 a b), .nilIface]) (by simp [results, Tryz.results80, go_sem, cntK] <;> first | exact (IntKind.wrap_u8 _).symm | exact (IntKind.wrap_u32 _).symm | exact (IntWalk.i32_left _).symm | exact (IntWalk.i64_left _).symm | exact (Int.fdiv_eq_ediv_of_nonneg _ (Int.pow_nonneg (by decide))).symm | exact (quo_u (by decide) (by omega) (by simp [IntKind.max, IntKind.signed, IntKind.bits]; omega) (by omega)).symm | exact (IntWalk.rem_in a b (by omega)).symm | rfl) rfl ⟨rfl, rfl⟩
set_option maxHeartbeats 1000000 in
theorem cnt_u32_and (a b : Int) (_h1 : 0 ≤ a) (_h2 : a ≤ 4294967295) (_h3 : 0 ≤ b) (_h4 : b ≤ 4294967295) (w : World) :
    Calls Tryz.prog 80 #[.int .i64 16, .int .u32 a, .int .u32 b] w fun e w' => e = .returned (.tuple #[.int .u32 (cntK .u32 16 a b), .nilIface]) ∧ w' = w := by
  go_enter Tryz.func80, Tryz.ntmps80
  go_wp2
  exact bodyPost_ret (v := .tuple #[.int .u32 (cntK .u32 16 a b), .nilIface]) (by simp [results, Tryz.results80, go_sem, cntK] <;> first | exact (IntKind.wrap_u8 _).symm | exact (IntKind.wrap_u32 _).symm | exact (IntWalk.i32_left _).symm | exact (IntWalk.i64_left _).symm | exact (Int.fdiv_eq_ediv_of_nonneg _ (Int.pow_nonneg (by decide))).symm | exact (quo_u (by decide) (by omega) (by simp [IntKind.max, IntKind.signed, IntKind.bits]; omega) (by omega)).symm | exact (IntWalk.rem_in a b (by omega)).symm | rfl) rfl ⟨rfl, rfl⟩
set_option maxHeartbeats 1000000 in
theorem cnt_u32_shl (a b : Int) (_h1 : 0 ≤ a) (_h2 : a ≤ 4294967295) (_h3 : 0 ≤ b) (_h4 : b ≤ 4294967295) (w : World) :
    Calls Tryz.prog 80 #[.int .i64 17, .int .u32 a, .int .u32 b] w fun e w' => e = .returned (.tuple #[.int .u32 (cntK .u32 17 a b), .nilIface]) ∧ w' = w := by
  have hs := shN_bd b (by omega) (by omega)
  have HS : Hid (∀ W, Calls Tryz.prog 104 #[.int .u32 b] W fun e w' => e = .returned (.int .u64 (shN b)) ∧ w' = W) := fun W => bits_u32 b _h3 _h4 W
  have HE : Hid (cntK .u32 17 a b = cntS .u32 17 a (shN b)) := rfl
  generalize shN b = q at *
  go_enter Tryz.func80, Tryz.ntmps80
  go_wp2_with (first | (go_at_call 104; refine (HS.out _).mono ?_; rintro e w' ⟨rfl, hw⟩; have hw2 := hw.symm; clear hw; subst hw2) | fail)
  exact bodyPost_ret (v := .tuple #[.int .u32 (cntK .u32 17 a b), .nilIface]) (by rw [HE.out]; simp [results, Tryz.results80, go_sem, cntS] <;> first | exact (IntKind.wrap_u8 _).symm | exact (IntKind.wrap_u32 _).symm | exact (IntWalk.i32_left _).symm | exact (IntWalk.i64_left _).symm | exact (Int.fdiv_eq_ediv_of_nonneg _ (Int.pow_nonneg (by decide))).symm | exact (quo_u (by decide) (by omega) (by simp [IntKind.max, IntKind.signed, IntKind.bits]; omega) (by omega)).symm | exact (IntWalk.rem_in a b (by omega)).symm | rfl) rfl ⟨rfl, rfl⟩
set_option maxHeartbeats 1000000 in
theorem cnt_u32_shr (a b : Int) (_h1 : 0 ≤ a) (_h2 : a ≤ 4294967295) (_h3 : 0 ≤ b) (_h4 : b ≤ 4294967295) (w : World) :
    Calls Tryz.prog 80 #[.int .i64 18, .int .u32 a, .int .u32 b] w fun e w' => e = .returned (.tuple #[.int .u32 (cntK .u32 18 a b), .nilIface]) ∧ w' = w := by
  have hs := shN_bd b (by omega) (by omega)
  have HS : Hid (∀ W, Calls Tryz.prog 104 #[.int .u32 b] W fun e w' => e = .returned (.int .u64 (shN b)) ∧ w' = W) := fun W => bits_u32 b _h3 _h4 W
  have HE : Hid (cntK .u32 18 a b = cntS .u32 18 a (shN b)) := rfl
  generalize shN b = q at *
  go_enter Tryz.func80, Tryz.ntmps80
  go_wp2_with (first | (go_at_call 104; refine (HS.out _).mono ?_; rintro e w' ⟨rfl, hw⟩; have hw2 := hw.symm; clear hw; subst hw2) | fail)
  exact bodyPost_ret (v := .tuple #[.int .u32 (cntK .u32 18 a b), .nilIface]) (by rw [HE.out]; simp [results, Tryz.results80, go_sem, cntS] <;> first | exact (IntKind.wrap_u8 _).symm | exact (IntKind.wrap_u32 _).symm | exact (IntWalk.i32_left _).symm | exact (IntWalk.i64_left _).symm | exact (Int.fdiv_eq_ediv_of_nonneg _ (Int.pow_nonneg (by decide))).symm | exact (quo_u (by decide) (by omega) (by simp [IntKind.max, IntKind.signed, IntKind.bits]; omega) (by omega)).symm | exact (IntWalk.rem_in a b (by omega)).symm | rfl) rfl ⟨rfl, rfl⟩
set_option maxHeartbeats 1000000 in
theorem cnt_u32_quo (a b : Int) (_h1 : 0 ≤ a) (_h2 : a ≤ 4294967295) (_h3 : 0 ≤ b) (_h4 : b ≤ 4294967295) (_hb : b ≠ 0) (w : World) :
    Calls Tryz.prog 80 #[.int .i64 14, .int .u32 a, .int .u32 b] w fun e w' => e = .returned (.tuple #[.int .u32 (cntK .u32 14 a b), .nilIface]) ∧ w' = w := by
  go_enter Tryz.func80, Tryz.ntmps80
  go_wp2
  exact bodyPost_ret (v := .tuple #[.int .u32 (cntK .u32 14 a b), .nilIface]) (by simp [results, Tryz.results80, go_sem, cntK] <;> first | exact (IntKind.wrap_u8 _).symm | exact (IntKind.wrap_u32 _).symm | exact (IntWalk.i32_left _).symm | exact (IntWalk.i64_left _).symm | exact (Int.fdiv_eq_ediv_of_nonneg _ (Int.pow_nonneg (by decide))).symm | exact (quo_u (by decide) (by omega) (by simp [IntKind.max, IntKind.signed, IntKind.bits]; omega) (by omega)).symm | exact (IntWalk.rem_in a b (by omega)).symm | rfl) rfl ⟨rfl, rfl⟩
set_option maxHeartbeats 1000000 in
theorem cnt_u32_rem (a b : Int) (_h1 : 0 ≤ a) (_h2 : a ≤ 4294967295) (_h3 : 0 ≤ b) (_h4 : b ≤ 4294967295) (_hb : b ≠ 0) (w : World) :
    Calls Tryz.prog 80 #[.int .i64 15, .int .u32 a, .int .u32 b] w fun e w' => e = .returned (.tuple #[.int .u32 (cntK .u32 15 a b), .nilIface]) ∧ w' = w := by
  go_enter Tryz.func80, Tryz.ntmps80
  go_wp2
  exact bodyPost_ret (v := .tuple #[.int .u32 (cntK .u32 15 a b), .nilIface]) (by simp [results, Tryz.results80, go_sem, cntK] <;> first | exact (IntKind.wrap_u8 _).symm | exact (IntKind.wrap_u32 _).symm | exact (IntWalk.i32_left _).symm | exact (IntWalk.i64_left _).symm | exact (Int.fdiv_eq_ediv_of_nonneg _ (Int.pow_nonneg (by decide))).symm | exact (quo_u (by decide) (by omega) (by simp [IntKind.max, IntKind.signed, IntKind.bits]; omega) (by omega)).symm | exact (IntWalk.rem_in a b (by omega)).symm | rfl) rfl ⟨rfl, rfl⟩
end Go.Proofs.YtabefhpgeaihgaaGreatDoor.V
