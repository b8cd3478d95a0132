import Derived.Test.YtabefhpgeaihgaaGreatDoorJ03
/-! Printed by gen_vcnt.py. -/
namespace Go.Proofs.YtabefhpgeaihgaaGreatDoor.V
open Go.RowKit Go.Shelf
set_option maxRecDepth 20000
set_option maxHeartbeats 1000000 in
theorem cnt_i16_add (a b : Int) (_h1 : -32768 ≤ a) (_h2 : a ≤ 32767) (_h3 : -32768 ≤ b) (_h4 : b ≤ 32767) (w : World) :
    Calls Tryz.prog 86 #[.int .i64 9, .int .i16 a, .int .i16 b] w fun e w' => e = .returned (.tuple #[.int .i16 (cntK .i16 9 a b), .nilIface]) ∧ w' = w := by
  go_enter Tryz.func86, Tryz.ntmps86
  go_wp2
  exact bodyPost_ret (v := .tuple #[.int .i16 (cntK .i16 9 a b), .nilIface]) (by simp [results, Tryz.results86, go_sem, cntK] <;> first | exact (IntKind.wrap_u8 _).symm | exact (IntKind.wrap_u32 _).symm | exact (IntWalk.i32_left _).symm | exact (IntWalk.i64_left _).symm | exact (Int.fdiv_eq_ediv_of_nonneg _ (Int.pow_nonneg (by decide))).symm | exact (quo_u (by decide) (by omega) (by simp [IntKind.max, IntKind.signed, IntKind.bits]; omega) (by omega)).symm | exact (IntWalk.rem_in a b (by omega)).symm | rfl) rfl ⟨rfl, rfl⟩
set_option maxHeartbeats 1000000 in
theorem cnt_i16_sub (a b : Int) (_h1 : -32768 ≤ a) (_h2 : a ≤ 32767) (_h3 : -32768 ≤ b) (_h4 : b ≤ 32767) (w : World) :
    Calls Tryz.prog 86 #[.int .i64 10, .int .i16 a, .int .i16 b] w fun e w' => e = .returned (.tuple #[.int .i16 (cntK .i16 10 a b), .nilIface]) ∧ w' = w := by
  go_enter Tryz.func86, Tryz.ntmps86
  go_wp2
  exact bodyPost_ret (v := .tuple #[.int .i16 (cntK .i16 10 a b), .nilIface]) (by simp [results, Tryz.results86, go_sem, cntK] <;> first | exact (IntKind.wrap_u8 _).symm | exact (IntKind.wrap_u32 _).symm | exact (IntWalk.i32_left _).symm | exact (IntWalk.i64_left _).symm | exact (Int.fdiv_eq_ediv_of_nonneg _ (Int.pow_nonneg (by decide))).symm | exact (quo_u (by decide) (by omega) (by simp [IntKind.max, IntKind.signed, IntKind.bits]; omega) (by omega)).symm | exact (IntWalk.rem_in a b (by omega)).symm | rfl) rfl ⟨rfl, rfl⟩
set_option maxHeartbeats 1000000 in
theorem cnt_i16_or (a b : Int) (_h1 : -32768 ≤ a) (_h2 : a ≤ 32767) (_h3 : -32768 ≤ b) (_h4 : b ≤ 32767) (w : World) :
    Calls Tryz.prog 86 #[.int .i64 11, .int .i16 a, .int .i16 b] w fun e w' => e = .returned (.tuple #[.int .i16 (cntK .i16 11 a b), .nilIface]) ∧ w' = w := by
  go_enter Tryz.func86, Tryz.ntmps86
  go_wp2
  exact bodyPost_ret (v := .tuple #[.int .i16 (cntK .i16 11 a b), .nilIface]) (by simp [results, Tryz.results86, go_sem, cntK] <;> first | exact (IntKind.wrap_u8 _).symm | exact (IntKind.wrap_u32 _).symm | exact (IntWalk.i32_left _).symm | exact (IntWalk.i64_left _).symm | exact (Int.fdiv_eq_ediv_of_nonneg _ (Int.pow_nonneg (by decide))).symm | exact (quo_u (by decide) (by omega) (by simp [IntKind.max, IntKind.signed, IntKind.bits]; omega) (by omega)).symm | exact (IntWalk.rem_in a b (by omega)).symm | rfl) rfl ⟨rfl, rfl⟩
set_option maxHeartbeats 1000000 in
theorem cnt_i16_xor (a b : Int) (_h1 : -32768 ≤ a) (_h2 : a ≤ 32767) (_h3 : -32768 ≤ b) (_h4 : b ≤ 32767) (w : World) :
    Calls Tryz.prog 86 #[.int .i64 12, .int .i16 a, .int .i16 b] w fun e w' => e = .returned (.tuple #[.int .i16 (cntK .i16 12 a b), .nilIface]) ∧ w' = w := by
  go_enter Tryz.func86, Tryz.ntmps86
  go_wp2
  exact bodyPost_ret (v := .tuple #[.int .i16 (cntK .i16 12 a b), .nilIface]) (by simp [results, Tryz.results86, go_sem, cntK] <;> first | exact (IntKind.wrap_u8 _).symm | exact (IntKind.wrap_u32 _).symm | exact (IntWalk.i32_left _).symm | exact (IntWalk.i64_left _).symm | exact (Int.fdiv_eq_ediv_of_nonneg _ (Int.pow_nonneg (by decide))).symm | exact (quo_u (by decide) (by omega) (by simp [IntKind.max, IntKind.signed, IntKind.bits]; omega) (by omega)).symm | exact (IntWalk.rem_in a b (by omega)).symm | rfl) rfl ⟨rfl, rfl⟩
set_option maxHeartbeats 1000000 in
theorem cnt_i16_mul (a b : Int) (_h1 : -32768 ≤ a) (_h2 : a ≤ 32767) (_h3 : -32768 ≤ b) (_h4 : b ≤ 32767) (w : World) :
    Calls Tryz.prog 86 #[.int .i64 13, .int .i16 a, .int .i16 b] w fun e w' => e = .returned (.tuple #[.int .i16 (cntK .i16 13 a b), .nilIface]) ∧ w' = w := by
  go_enter Tryz.func86, Tryz.ntmps86
  go_wp2
  exact bodyPost_ret (v := .tuple #[.int .i16 (cntK .i16 13 a b), .nilIface]) (by simp [results, Tryz.results86, go_sem, cntK] <;> first | exact (IntKind.wrap_u8 _).symm | exact (IntKind.wrap_u32 _).symm | exact (IntWalk.i32_left _).symm | exact (IntWalk.i64_left _).symm | exact (Int.fdiv_eq_ediv_of_nonneg _ (Int.pow_nonneg (by decide))).symm | exact (quo_u (by decide) (by omega) (by simp [IntKind.max, IntKind.signed, IntKind.bits]; omega) (by omega)).symm | exact (IntWalk.rem_in a b (by omega)).symm | rfl) rfl ⟨rfl, rfl⟩
set_option maxHeartbeats 1000000 in
theorem cnt_i16_and (a b : Int) (_h1 : -32768 ≤ a) (_h2 : a ≤ 32767) (_h3 : -32768 ≤ b) (_h4 : b ≤ 32767) (w : World) :
    Calls Tryz.prog 86 #[.int .i64 16, .int .i16 a, .int .i16 b] w fun e w' => e = .returned (.tuple #[.int .i16 (cntK .i16 16 a b), .nilIface]) ∧ w' = w := by
  go_enter Tryz.func86, Tryz.ntmps86
  go_wp2
  exact bodyPost_ret (v := .tuple #[.int .i16 (cntK .i16 16 a b), .nilIface]) (by simp [results, Tryz.results86, go_sem, cntK] <;> first | exact (IntKind.wrap_u8 _).symm | exact (IntKind.wrap_u32 _).symm | exact (IntWalk.i32_left _).symm | exact (IntWalk.i64_left _).symm | exact (Int.fdiv_eq_ediv_of_nonneg _ (Int.pow_nonneg (by decide))).symm | exact (quo_u (by decide) (by omega) (by simp [IntKind.max, IntKind.signed, IntKind.bits]; omega) (by omega)).symm | exact (IntWalk.rem_in a b (by omega)).symm | rfl) rfl ⟨rfl, rfl⟩
set_option maxHeartbeats 1000000 in
theorem cnt_i16_shl (a b : Int) (_h1 : -32768 ≤ a) (_h2 : a ≤ 32767) (_h3 : -32768 ≤ b) (_h4 : b ≤ 32767) (w : World) :
    Calls Tryz.prog 86 #[.int .i64 17, .int .i16 a, .int .i16 b] w fun e w' => e = .returned (.tuple #[.int .i16 (cntK .i16 17 a b), .nilIface]) ∧ w' = w := by
  have hs := shN_bd b (by omega) (by omega)
  have HS : Hid (∀ W, Calls Tryz.prog 107 #[.int .i16 b] W fun e w' => e = .returned (.int .u64 (shN b)) ∧ w' = W) := fun W => bits_i16 b _h3 _h4 W
  have HE : Hid (cntK .i16 17 a b = cntS .i16 17 a (shN b)) := rfl
  generalize shN b = q at *
  go_enter Tryz.func86, Tryz.ntmps86
  go_wp2_with (first | (go_at_call 107; refine (HS.out _).mono ?_; rintro e w' ⟨rfl, hw⟩; have hw2 := hw.symm; clear hw; subst hw2) | fail)
  exact bodyPost_ret (v := .tuple #[.int .i16 (cntK .i16 17 a b), .nilIface]) (by rw [HE.out]; simp [results, Tryz.results86, go_sem, cntS] <;> first | exact (IntKind.wrap_u8 _).symm | exact (IntKind.wrap_u32 _).symm | exact (IntWalk.i32_left _).symm | exact (IntWalk.i64_left _).symm | exact (Int.fdiv_eq_ediv_of_nonneg _ (Int.pow_nonneg (by decide))).symm | exact (quo_u (by decide) (by omega) (by simp [IntKind.max, IntKind.signed, IntKind.bits]; omega) (by omega)).symm | exact (IntWalk.rem_in a b (by omega)).symm | rfl) rfl ⟨rfl, rfl⟩
set_option maxHeartbeats 1000000 in
theorem cnt_i16_shr (a b : Int) (_h1 : -32768 ≤ a) (_h2 : a ≤ 32767) (_h3 : -32768 ≤ b) (_h4 : b ≤ 32767) (w : World) :
    Calls Tryz.prog 86 #[.int .i64 18, .int .i16 a, .int .i16 b] w fun e w' => e = .returned (.tuple #[.int .i16 (cntK .i16 18 a b), .nilIface]) ∧ w' = w := by
  have hs := shN_bd b (by omega) (by omega)
  have HS : Hid (∀ W, Calls Tryz.prog 107 #[.int .i16 b] W fun e w' => e = .returned (.int .u64 (shN b)) ∧ w' = W) := fun W => bits_i16 b _h3 _h4 W
  have HE : Hid (cntK .i16 18 a b = cntS .i16 18 a (shN b)) := rfl
  generalize shN b = q at *
  go_enter Tryz.func86, Tryz.ntmps86
  go_wp2_with (first | (go_at_call 107; refine (HS.out _).mono ?_; rintro e w' ⟨rfl, hw⟩; have hw2 := hw.symm; clear hw; subst hw2) | fail)
  exact bodyPost_ret (v := .tuple #[.int .i16 (cntK .i16 18 a b), .nilIface]) (by rw [HE.out]; simp [results, Tryz.results86, go_sem, cntS] <;> first | exact (IntKind.wrap_u8 _).symm | exact (IntKind.wrap_u32 _).symm | exact (IntWalk.i32_left _).symm | exact (IntWalk.i64_left _).symm | exact (Int.fdiv_eq_ediv_of_nonneg _ (Int.pow_nonneg (by decide))).symm | exact (quo_u (by decide) (by omega) (by simp [IntKind.max, IntKind.signed, IntKind.bits]; omega) (by omega)).symm | exact (IntWalk.rem_in a b (by omega)).symm | rfl) rfl ⟨rfl, rfl⟩
set_option maxHeartbeats 1000000 in
theorem cnt_i16_quo (a b : Int) (_h1 : -32768 ≤ a) (_h2 : a ≤ 32767) (_h3 : -32768 ≤ b) (_h4 : b ≤ 32767) (_hb : b ≠ 0) (w : World) :
    Calls Tryz.prog 86 #[.int .i64 14, .int .i16 a, .int .i16 b] w fun e w' => e = .returned (.tuple #[.int .i16 (cntK .i16 14 a b), .nilIface]) ∧ w' = w := by
  go_enter Tryz.func86, Tryz.ntmps86
  go_wp2
  exact bodyPost_ret (v := .tuple #[.int .i16 (cntK .i16 14 a b), .nilIface]) (by simp [results, Tryz.results86, go_sem, cntK] <;> first | exact (IntKind.wrap_u8 _).symm | exact (IntKind.wrap_u32 _).symm | exact (IntWalk.i32_left _).symm | exact (IntWalk.i64_left _).symm | exact (Int.fdiv_eq_ediv_of_nonneg _ (Int.pow_nonneg (by decide))).symm | exact (quo_u (by decide) (by omega) (by simp [IntKind.max, IntKind.signed, IntKind.bits]; omega) (by omega)).symm | exact (IntWalk.rem_in a b (by omega)).symm | rfl) rfl ⟨rfl, rfl⟩
set_option maxHeartbeats 1000000 in
theorem cnt_i16_rem (a b : Int) (_h1 : -32768 ≤ a) (_h2 : a ≤ 32767) (_h3 : -32768 ≤ b) (_h4 : b ≤ 32767) (_hb : b ≠ 0) (w : World) :
    Calls Tryz.prog 86 #[.int .i64 15, .int .i16 a, .int .i16 b] w fun e w' => e = .returned (.tuple #[.int .i16 (cntK .i16 15 a b), .nilIface]) ∧ w' = w := by
  go_enter Tryz.func86, Tryz.ntmps86
  go_wp2
  exact bodyPost_ret (v := .tuple #[.int .i16 (cntK .i16 15 a b), .nilIface]) (by simp [results, Tryz.results86, go_sem, cntK] <;> first | exact (IntKind.wrap_u8 _).symm | exact (IntKind.wrap_u32 _).symm | exact (IntWalk.i32_left _).symm | exact (IntWalk.i64_left _).symm | exact (Int.fdiv_eq_ediv_of_nonneg _ (Int.pow_nonneg (by decide))).symm | exact (quo_u (by decide) (by omega) (by simp [IntKind.max, IntKind.signed, IntKind.bits]; omega) (by omega)).symm | exact (IntWalk.rem_in a b (by omega)).symm | rfl) rfl ⟨rfl, rfl⟩
end Go.Proofs.YtabefhpgeaihgaaGreatDoor.V
