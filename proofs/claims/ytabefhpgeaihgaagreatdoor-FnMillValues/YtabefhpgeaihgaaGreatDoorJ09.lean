import Derived.Test.YtabefhpgeaihgaaGreatDoorJ03
/-! Printed by gen_vcnt.py. -/
namespace Go.Proofs.YtabefhpgeaihgaaGreatDoor.V
open Go.RowKit Go.Shelf
set_option maxRecDepth 20000
set_option maxHeartbeats 1000000 in
theorem cnt_u16_add (a b : Int) (_h1 : 0 ≤ a) (_h2 : a ≤ 65535) (_h3 : 0 ≤ b) (_h4 : b ≤ 65535) (w : World) :
    Calls Tryz.prog 78 #[.int .i64 9, .int .u16 a, .int .u16 b] w fun e w' => e = .returned (.tuple #[.int .u16 (cntK .u16 9 a b), .nilIface]) ∧ w' = w := by
  go_enter Tryz.func78, Tryz.ntmps78
  go_wp2
  exact bodyPost_ret (v := .tuple #[.int .u16 (cntK .u16 9 a b), .nilIface]) (by simp [results, Tryz.results78, go_sem, cntK] <;> first | exact (IntKind.wrap_u8 _).symm | exact (IntKind.wrap_u32 _).symm | exact (IntWalk.i32_left _).symm | exact (IntWalk.i64_left _).symm | exact (Int.fdiv_eq_ediv_of_nonneg _ (Int.pow_nonneg (by decide))).symm | exact (quo_u (by decide) (by omega) (by simp [IntKind.max, IntKind.signed, IntKind.bits]; omega) (by omega)).symm | exact (IntWalk.rem_in a b (by omega)).symm | rfl) rfl ⟨rfl, rfl⟩
set_option maxHeartbeats 1000000 in
theorem cnt_u16_sub (a b : Int) (_h1 : 0 ≤ a) (_h2 : a ≤ 65535) (_h3 : 0 ≤ b) (_h4 : b ≤ 65535) (w : World) :
    Calls Tryz.prog 78 #[.int .i64 10, .int .u16 a, .int .u16 b] w fun e w' => e = .returned (.tuple #[.int .u16 (cntK .u16 10 a b), .nilIface]) ∧ w' = w := by
  go_enter Tryz.func78, Tryz.ntmps78
  go_wp2
  exact bodyPost_ret (v := .tuple #[.int .u16 (cntK .u16 10 a b), .nilIface]) (by simp [results, Tryz.results78, go_sem, cntK] <;> first | exact (IntKind.wrap_u8 _).symm | exact (IntKind.wrap_u32 _).symm | exact (IntWalk.i32_left _).symm | exact (IntWalk.i64_left _).symm | exact (Int.fdiv_eq_ediv_of_nonneg _ (Int.pow_nonneg (by decide))).symm | exact (quo_u (by decide) (by omega) (by simp [IntKind.max, IntKind.signed, IntKind.bits]; omega) (by omega)).symm | exact (IntWalk.rem_in a b (by omega)).symm | rfl) rfl ⟨rfl, rfl⟩
set_option maxHeartbeats 1000000 in
theorem cnt_u16_or (a b : Int) (_h1 : 0 ≤ a) (_h2 : a ≤ 65535) (_h3 : 0 ≤ b) (_h4 : b ≤ 65535) (w : World) :
    Calls Tryz.prog 78 #[.int .i64 11, .int .u16 a, .int .u16 b] w fun e w' => e = .returned (.tuple #[.int .u16 (cntK .u16 11 a b), .nilIface]) ∧ w' = w := by
  go_enter Tryz.func78, Tryz.ntmps78
  go_wp2
  exact bodyPost_ret (v := .tuple #[.int .u16 (cntK .u16 11 a b), .nilIface]) (by simp [results, Tryz.results78, go_sem, cntK] <;> first | exact (IntKind.wrap_u8 _).symm | exact (IntKind.wrap_u32 _).symm | exact (IntWalk.i32_left _).symm | exact (IntWalk.i64_left _).symm | exact (Int.fdiv_eq_ediv_of_nonneg _ (Int.pow_nonneg (by decide))).symm | exact (quo_u (by decide) (by omega) (by simp [IntKind.max, IntKind.signed, IntKind.bits]; omega) (by omega)).symm | exact (IntWalk.rem_in a b (by omega)).symm | rfl) rfl ⟨rfl, rfl⟩
set_option maxHeartbeats 1000000 in
theorem cnt_u16_xor (a b : Int) (_h1 : 0 ≤ a) (_h2 : a ≤ 65535) (_h3 : 0 ≤ b) (_h4 : b ≤ 65535) (w : World) :
    Calls Tryz.prog 78 #[.int .i64 12, .int .u16 a, .int .u16 b] w fun e w' => e = .returned (.tuple #[.int .u16 (cntK .u16 12 a b), .nilIface]) ∧ w' = w := by
  go_enter Tryz.func78, Tryz.ntmps78
  go_wp2
  exact bodyPost_ret (v := .tuple #[.int .u16 (cntK .u16 12 a b), .nilIface]) (by simp [results, Tryz.results78, go_sem, cntK] <;> first | exact (IntKind.wrap_u8 _).symm | exact (IntKind.wrap_u32 _).symm | exact (IntWalk.i32_left _).symm | exact (IntWalk.i64_left _).symm | exact (Int.fdiv_eq_ediv_of_nonneg _ (Int.pow_nonneg (by decide))).symm | exact (quo_u (by decide) (by omega) (by simp [IntKind.max, IntKind.signed, IntKind.bits]; omega) (by omega)).symm | exact (IntWalk.rem_in a b (by omega)).symm | rfl) rfl ⟨rfl, rfl⟩
set_option maxHeartbeats 1000000 in
theorem cnt_u16_mul (a b : Int) (_h1 : 0 ≤ a) (_h2 : a ≤ 65535) (_h3 : 0 ≤ b) (_h4 : b ≤ 65535) (w : World) :
    Calls Tryz.prog 78 #[.int .i64 13, .int .u16 a, .int .u16 b] w fun e w' => e = .returned (.tuple #[.int .u16 (cntK .u16 13 a b), .nilIface]) ∧ w' = w := by
  go_enter Tryz.func78, Tryz.ntmps78
  go_wp2
  exact bodyPost_ret (v := .tuple #[.int .u16 (cntK .u16 13 a b), .nilIface]) (by simp [results, Tryz.results78, go_sem, cntK] <;> first | exact (IntKind.wrap_u8 _).symm | exact (IntKind.wrap_u32 _).symm | exact (IntWalk.i32_left _).symm | exact (IntWalk.i64_left _).symm | exact (Int.fdiv_eq_ediv_of_nonneg _ (Int.pow_nonneg (by decide))).symm | exact (quo_u (by decide) (by omega) (by simp [IntKind.max, IntKind.signed, IntKind.bits]; omega) (by omega)).symm | exact (IntWalk.rem_in a b (by omega)).symm | rfl) rfl ⟨rfl, rfl⟩
set_option maxHeartbeats 1000000 in
theorem cnt_u16_and (a b : Int) (_h1 : 0 ≤ a) (_h2 : a ≤ 65535) (_h3 : 0 ≤ b) (_h4 : b ≤ 65535) (w : World) :
    Calls Tryz.prog 78 #[.int .i64 16, .int .u16 a, .int .u16 b] w fun e w' => e = .returned (.tuple #[.int .u16 (cntK .u16 16 a b), .nilIface]) ∧ w' = w := by
  go_enter Tryz.func78, Tryz.ntmps78
  go_wp2
  exact bodyPost_ret (v := .tuple #[.int .u16 (cntK .u16 16 a b), .nilIface]) (by simp [results, Tryz.results78, go_sem, cntK] <;> first | exact (IntKind.wrap_u8 _).symm | exact (IntKind.wrap_u32 _).symm | exact (IntWalk.i32_left _).symm | exact (IntWalk.i64_left _).symm | exact (Int.fdiv_eq_ediv_of_nonneg _ (Int.pow_nonneg (by decide))).symm | exact (quo_u (by decide) (by omega) (by simp [IntKind.max, IntKind.signed, IntKind.bits]; omega) (by omega)).symm | exact (IntWalk.rem_in a b (by omega)).symm | rfl) rfl ⟨rfl, rfl⟩
set_option maxHeartbeats 1000000 in
theorem cnt_u16_shl (a b : Int) (_h1 : 0 ≤ a) (_h2 : a ≤ 65535) (_h3 : 0 ≤ b) (_h4 : b ≤ 65535) (w : World) :
    Calls Tryz.prog 78 #[.int .i64 17, .int .u16 a, .int .u16 b] w fun e w' => e = .returned (.tuple #[.int .u16 (cntK .u16 17 a b), .nilIface]) ∧ w' = w := by
  have hs := shN_bd b (by omega) (by omega)
  have HS : Hid (∀ W, Calls Tryz.prog 103 #[.int .u16 b] W fun e w' => e = .returned (.int .u64 (shN b)) ∧ w' = W) := fun W => bits_u16 b _h3 _h4 W
  have HE : Hid (cntK .u16 17 a b = cntS .u16 17 a (shN b)) := rfl
  generalize shN b = q at *
  go_enter Tryz.func78, Tryz.ntmps78
  go_wp2_with (first | (go_at_call 103; refine (HS.out _).mono ?_; rintro e w' ⟨rfl, hw⟩; have hw2 := hw.symm; clear hw; subst hw2) | fail)
  exact bodyPost_ret (v := .tuple #[.int .u16 (cntK .u16 17 a b), .nilIface]) (by rw [HE.out]; simp [results, Tryz.results78, go_sem, cntS] <;> first | exact (IntKind.wrap_u8 _).symm | exact (IntKind.wrap_u32 _).symm | exact (IntWalk.i32_left _).symm | exact (IntWalk.i64_left _).symm | exact (Int.fdiv_eq_ediv_of_nonneg _ (Int.pow_nonneg (by decide))).symm | exact (quo_u (by decide) (by omega) (by simp [IntKind.max, IntKind.signed, IntKind.bits]; omega) (by omega)).symm | exact (IntWalk.rem_in a b (by omega)).symm | rfl) rfl ⟨rfl, rfl⟩
set_option maxHeartbeats 1000000 in
theorem cnt_u16_shr (a b : Int) (_h1 : 0 ≤ a) (_h2 : a ≤ 65535) (_h3 : 0 ≤ b) (_h4 : b ≤ 65535) (w : World) :
    Calls Tryz.prog 78 #[.int .i64 18, .int .u16 a, .int .u16 b] w fun e w' => e = .returned (.tuple #[.int .u16 (cntK .u16 18 a b), .nilIface]) ∧ w' = w := by
  have hs := shN_bd b (by omega) (by omega)
  have HS : Hid (∀ W, Calls Tryz.prog 103 #[.int .u16 b] W fun e w' => e = .returned (.int .u64 (shN b)) ∧ w' = W) := fun W => bits_u16 b _h3 _h4 W
  have HE : Hid (cntK .u16 18 a b = cntS .u16 18 a (shN b)) := rfl
  generalize shN b = q at *
  go_enter Tryz.func78, Tryz.ntmps78
  go_wp2_with (first | (go_at_call 103; refine (HS.out _).mono ?_; rintro e w' ⟨rfl, hw⟩; have hw2 := hw.symm; clear hw; subst hw2) | fail)
  exact bodyPost_ret (v := .tuple #[.int .u16 (cntK .u16 18 a b), .nilIface]) (by rw [HE.out]; simp [results, Tryz.results78, go_sem, cntS] <;> first | exact (IntKind.wrap_u8 _).symm | exact (IntKind.wrap_u32 _).symm | exact (IntWalk.i32_left _).symm | exact (IntWalk.i64_left _).symm | exact (Int.fdiv_eq_ediv_of_nonneg _ (Int.pow_nonneg (by decide))).symm | exact (quo_u (by decide) (by omega) (by simp [IntKind.max, IntKind.signed, IntKind.bits]; omega) (by omega)).symm | exact (IntWalk.rem_in a b (by omega)).symm | rfl) rfl ⟨rfl, rfl⟩
set_option maxHeartbeats 1000000 in
theorem cnt_u16_quo (a b : Int) (_h1 : 0 ≤ a) (_h2 : a ≤ 65535) (_h3 : 0 ≤ b) (_h4 : b ≤ 65535) (_hb : b ≠ 0) (w : World) :
    Calls Tryz.prog 78 #[.int .i64 14, .int .u16 a, .int .u16 b] w fun e w' => e = .returned (.tuple #[.int .u16 (cntK .u16 14 a b), .nilIface]) ∧ w' = w := by
  go_enter Tryz.func78, Tryz.ntmps78
  go_wp2
  exact bodyPost_ret (v := .tuple #[.int .u16 (cntK .u16 14 a b), .nilIface]) (by simp [results, Tryz.results78, go_sem, cntK] <;> first | exact (IntKind.wrap_u8 _).symm | exact (IntKind.wrap_u32 _).symm | exact (IntWalk.i32_left _).symm | exact (IntWalk.i64_left _).symm | exact (Int.fdiv_eq_ediv_of_nonneg _ (Int.pow_nonneg (by decide))).symm | exact (quo_u (by decide) (by omega) (by simp [IntKind.max, IntKind.signed, IntKind.bits]; omega) (by omega)).symm | exact (IntWalk.rem_in a b (by omega)).symm | rfl) rfl ⟨rfl, rfl⟩
set_option maxHeartbeats 1000000 in
theorem cnt_u16_rem (a b : Int) (_h1 : 0 ≤ a) (_h2 : a ≤ 65535) (_h3 : 0 ≤ b) (_h4 : b ≤ 65535) (_hb : b ≠ 0) (w : World) :
    Calls Tryz.prog 78 #[.int .i64 15, .int .u16 a, .int .u16 b] w fun e w' => e = .returned (.tuple #[.int .u16 (cntK .u16 15 a b), .nilIface]) ∧ w' = w := by
  go_enter Tryz.func78, Tryz.ntmps78
  go_wp2
  exact bodyPost_ret (v := .tuple #[.int .u16 (cntK .u16 15 a b), .nilIface]) (by simp [results, Tryz.results78, go_sem, cntK] <;> first | exact (IntKind.wrap_u8 _).symm | exact (IntKind.wrap_u32 _).symm | exact (IntWalk.i32_left _).symm | exact (IntWalk.i64_left _).symm | exact (Int.fdiv_eq_ediv_of_nonneg _ (Int.pow_nonneg (by decide))).symm | exact (quo_u (by decide) (by omega) (by simp [IntKind.max, IntKind.signed, IntKind.bits]; omega) (by omega)).symm | exact (IntWalk.rem_in a b (by omega)).symm | rfl) rfl ⟨rfl, rfl⟩
end Go.Proofs.YtabefhpgeaihgaaGreatDoor.V
