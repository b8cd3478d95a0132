import Derived.Test.YtmmgpbjmegfffaaDoorVValid
/-! Printed by gen_vcnt.py. -/
namespace Go.Proofs.YtmmgpbjmegfffaaDoor.V
open Go.RowKit Go.Shelf
set_option maxRecDepth 20000
set_option maxHeartbeats 1000000 in
theorem cmp_u8 (op a b : Int) (h3 : 3 ≤ op) (h8 : op ≤ 8) (w : World) :
    Calls Tryd.prog 65 #[.int .i64 op, .int .u8 a, .int .u8 b] w fun e w' => e = .returned (.bool (cmpB op a b)) ∧ w' = w := by
  obtain rfl | rfl | rfl | rfl | rfl | rfl : op = 3 ∨ op = 4 ∨ op = 5 ∨ op = 6 ∨ op = 7 ∨ op = 8 := by omega
  all_goals clear h3 h8
  all_goals go_enter Tryd.func65, Tryd.ntmps65
  all_goals go_wp2
  all_goals go_ret
  all_goals exact ⟨ret_bool (by unfold cmpB; rw [Bool.eq_iff_iff]; simp), rfl⟩
set_option maxHeartbeats 1000000 in
theorem bits_u8 (b : Int) (_h1 : 0 ≤ b) (_h2 : b ≤ 255) (w : World) :
    Calls Tryd.prog 83 #[.int .u8 b] w fun e w' => e = .returned (.int .u64 (shN b)) ∧ w' = w := by
  by_cases h : b < 0
  · have HS : Hid (shN b = 64) := by show _ = _; unfold shN; rw [if_pos h]
    go_enter Tryd.func83, Tryd.ntmps83
    go_wp2
    go_ret
    exact ⟨ret_int (by rw [HS.out]), rfl⟩
  · have HS : Hid (shN b = b) := by show _ = _; unfold shN; rw [if_neg h]
    go_enter Tryd.func83, Tryd.ntmps83
    go_wp2
    go_ret
    exact ⟨ret_int (by rw [HS.out]), rfl⟩
set_option maxHeartbeats 1000000 in
theorem cmp_u16 (op a b : Int) (h3 : 3 ≤ op) (h8 : op ≤ 8) (w : World) :
    Calls Tryd.prog 67 #[.int .i64 op, .int .u16 a, .int .u16 b] w fun e w' => e = .returned (.bool (cmpB op a b)) ∧ w' = w := by
  obtain rfl | rfl | rfl | rfl | rfl | rfl : op = 3 ∨ op = 4 ∨ op = 5 ∨ op = 6 ∨ op = 7 ∨ op = 8 := by omega
  all_goals clear h3 h8
  all_goals go_enter Tryd.func67, Tryd.ntmps67
  all_goals go_wp2
  all_goals go_ret
  all_goals exact ⟨ret_bool (by unfold cmpB; rw [Bool.eq_iff_iff]; simp), rfl⟩
set_option maxHeartbeats 1000000 in
theorem bits_u16 (b : Int) (_h1 : 0 ≤ b) (_h2 : b ≤ 65535) (w : World) :
    Calls Tryd.prog 84 #[.int .u16 b] w fun e w' => e = .returned (.int .u64 (shN b)) ∧ w' = w := by
  by_cases h : b < 0
  · have HS : Hid (shN b = 64) := by show _ = _; unfold shN; rw [if_pos h]
    go_enter Tryd.func84, Tryd.ntmps84
    go_wp2
    go_ret
    exact ⟨ret_int (by rw [HS.out]), rfl⟩
  · have HS : Hid (shN b = b) := by show _ = _; unfold shN; rw [if_neg h]
    go_enter Tryd.func84, Tryd.ntmps84
    go_wp2
    go_ret
    exact ⟨ret_int (by rw [HS.out]), rfl⟩
set_option maxHeartbeats 1000000 in
theorem cmp_u32 (op a b : Int) (h3 : 3 ≤ op) (h8 : op ≤ 8) (w : World) :
    Calls Tryd.prog 69 #[.int .i64 op, .int .u32 a, .int .u32 b] w fun e w' => e = .returned (.bool (cmpB op a b)) ∧ w' = w := by
  obtain rfl | rfl | rfl | rfl | rfl | rfl : op = 3 ∨ op = 4 ∨ op = 5 ∨ op = 6 ∨ op = 7 ∨ op = 8 := by omega
  all_goals clear h3 h8
  all_goals go_enter Tryd.func69, Tryd.ntmps69
  all_goals go_wp2
  all_goals go_ret
  all_goals exact ⟨ret_bool (by unfold cmpB; rw [Bool.eq_iff_iff]; simp), rfl⟩
set_option maxHeartbeats 1000000 in
theorem bits_u32 (b : Int) (_h1 : 0 ≤ b) (_h2 : b ≤ 4294967295) (w : World) :
    Calls Tryd.prog 85 #[.int .u32 b] w fun e w' => e = .returned (.int .u64 (shN b)) ∧ w' = w := by
  by_cases h : b < 0
  · have HS : Hid (shN b = 64) := by show _ = _; unfold shN; rw [if_pos h]
    go_enter Tryd.func85, Tryd.ntmps85
    go_wp2
    go_ret
    exact ⟨ret_int (by rw [HS.out]), rfl⟩
  · have HS : Hid (shN b = b) := by show _ = _; unfold shN; rw [if_neg h]
    go_enter Tryd.func85, Tryd.ntmps85
    go_wp2
    go_ret
    exact ⟨ret_int (by rw [HS.out]), rfl⟩
set_option maxHeartbeats 1000000 in
theorem cmp_u64 (op a b : Int) (h3 : 3 ≤ op) (h8 : op ≤ 8) (w : World) :
    Calls Tryd.prog 71 #[.int .i64 op, .int .u64 a, .int .u64 b] w fun e w' => e = .returned (.bool (cmpB op a b)) ∧ w' = w := by
  obtain rfl | rfl | rfl | rfl | rfl | rfl : op = 3 ∨ op = 4 ∨ op = 5 ∨ op = 6 ∨ op = 7 ∨ op = 8 := by omega
  all_goals clear h3 h8
  all_goals go_enter Tryd.func71, Tryd.ntmps71
  all_goals go_wp2
  all_goals go_ret
  all_goals exact ⟨ret_bool (by unfold cmpB; rw [Bool.eq_iff_iff]; simp), rfl⟩
set_option maxHeartbeats 1000000 in
theorem bits_u64 (b : Int) (_h1 : 0 ≤ b) (_h2 : b ≤ 18446744073709551615) (w : World) :
    Calls Tryd.prog 86 #[.int .u64 b] w fun e w' => e = .returned (.int .u64 (shN b)) ∧ w' = w := by
  by_cases h : b < 0
  · have HS : Hid (shN b = 64) := by show _ = _; unfold shN; rw [if_pos h]
    go_enter Tryd.func86, Tryd.ntmps86
    go_wp2
    go_ret
    exact ⟨ret_int (by rw [HS.out]), rfl⟩
  · have HS : Hid (shN b = b) := by show _ = _; unfold shN; rw [if_neg h]
    go_enter Tryd.func86, Tryd.ntmps86
    go_wp2
    go_ret
    exact ⟨ret_int (by rw [HS.out]), rfl⟩
set_option maxHeartbeats 1000000 in
theorem cmp_i8 (op a b : Int) (h3 : 3 ≤ op) (h8 : op ≤ 8) (w : World) :
    Calls Tryd.prog 73 #[.int .i64 op, .int .i8 a, .int .i8 b] w fun e w' => e = .returned (.bool (cmpB op a b)) ∧ w' = w := by
  obtain rfl | rfl | rfl | rfl | rfl | rfl : op = 3 ∨ op = 4 ∨ op = 5 ∨ op = 6 ∨ op = 7 ∨ op = 8 := by omega
  all_goals clear h3 h8
  all_goals go_enter Tryd.func73, Tryd.ntmps73
  all_goals go_wp2
  all_goals go_ret
  all_goals exact ⟨ret_bool (by unfold cmpB; rw [Bool.eq_iff_iff]; simp), rfl⟩
set_option maxHeartbeats 1000000 in
theorem bits_i8 (b : Int) (_h1 : -128 ≤ b) (_h2 : b ≤ 127) (w : World) :
    Calls Tryd.prog 87 #[.int .i8 b] w fun e w' => e = .returned (.int .u64 (shN b)) ∧ w' = w := by
  by_cases h : b < 0
  · have HS : Hid (shN b = 64) := by show _ = _; unfold shN; rw [if_pos h]
    go_enter Tryd.func87, Tryd.ntmps87
    go_wp2
    go_ret
    exact ⟨ret_int (by rw [HS.out]), rfl⟩
  · have HS : Hid (shN b = b) := by show _ = _; unfold shN; rw [if_neg h]
    go_enter Tryd.func87, Tryd.ntmps87
    go_wp2
    go_ret
    exact ⟨ret_int (by rw [HS.out]), rfl⟩
set_option maxHeartbeats 1000000 in
theorem cmp_i16 (op a b : Int) (h3 : 3 ≤ op) (h8 : op ≤ 8) (w : World) :
    Calls Tryd.prog 75 #[.int .i64 op, .int .i16 a, .int .i16 b] w fun e w' => e = .returned (.bool (cmpB op a b)) ∧ w' = w := by
  obtain rfl | rfl | rfl | rfl | rfl | rfl : op = 3 ∨ op = 4 ∨ op = 5 ∨ op = 6 ∨ op = 7 ∨ op = 8 := by omega
  all_goals clear h3 h8
  all_goals go_enter Tryd.func75, Tryd.ntmps75
  all_goals go_wp2
  all_goals go_ret
  all_goals exact ⟨ret_bool (by unfold cmpB; rw [Bool.eq_iff_iff]; simp), rfl⟩
set_option maxHeartbeats 1000000 in
theorem bits_i16 (b : Int) (_h1 : -32768 ≤ b) (_h2 : b ≤ 32767) (w : World) :
    Calls Tryd.prog 88 #[.int .i16 b] w fun e w' => e = .returned (.int .u64 (shN b)) ∧ w' = w := by
  by_cases h : b < 0
  · have HS : Hid (shN b = 64) := by show _ = _; unfold shN; rw [if_pos h]
    go_enter Tryd.func88, Tryd.ntmps88
    go_wp2
    go_ret
    exact ⟨ret_int (by rw [HS.out]), rfl⟩
  · have HS : Hid (shN b = b) := by show _ = _; unfold shN; rw [if_neg h]
    go_enter Tryd.func88, Tryd.ntmps88
    go_wp2
    go_ret
    exact ⟨ret_int (by rw [HS.out]), rfl⟩
set_option maxHeartbeats 1000000 in
theorem cmp_i32 (op a b : Int) (h3 : 3 ≤ op) (h8 : op ≤ 8) (w : World) :
    Calls Tryd.prog 77 #[.int .i64 op, .int .i32 a, .int .i32 b] w fun e w' => e = .returned (.bool (cmpB op a b)) ∧ w' = w := by
  obtain rfl | rfl | rfl | rfl | rfl | rfl : op = 3 ∨ op = 4 ∨ op = 5 ∨ op = 6 ∨ op = 7 ∨ op = 8 := by omega
  all_goals clear h3 h8
  all_goals go_enter Tryd.func77, Tryd.ntmps77
  all_goals go_wp2
  all_goals go_ret
  all_goals exact ⟨ret_bool (by unfold cmpB; rw [Bool.eq_iff_iff]; simp), rfl⟩
set_option maxHeartbeats 1000000 in
theorem bits_i32 (b : Int) (_h1 : -2147483648 ≤ b) (_h2 : b ≤ 2147483647) (w : World) :
    Calls Tryd.prog 89 #[.int .i32 b] w fun e w' => e = .returned (.int .u64 (shN b)) ∧ w' = w := by
  by_cases h : b < 0
  · have HS : Hid (shN b = 64) := by show _ = _; unfold shN; rw [if_pos h]
    go_enter Tryd.func89, Tryd.ntmps89
    go_wp2
    go_ret
    exact ⟨ret_int (by rw [HS.out]), rfl⟩
  · have HS : Hid (shN b = b) := by show _ = _; unfold shN; rw [if_neg h]
    go_enter Tryd.func89, Tryd.ntmps89
    go_wp2
    go_ret
    exact ⟨ret_int (by rw [HS.out]), rfl⟩
set_option maxHeartbeats 1000000 in
theorem cmp_i64 (op a b : Int) (h3 : 3 ≤ op) (h8 : op ≤ 8) (w : World) :
    Calls Tryd.prog 48 #[.int .i64 op, .int .i64 a, .int .i64 b] w fun e w' => e = .returned (.bool (cmpB op a b)) ∧ w' = w := by
  obtain rfl | rfl | rfl | rfl | rfl | rfl : op = 3 ∨ op = 4 ∨ op = 5 ∨ op = 6 ∨ op = 7 ∨ op = 8 := by omega
  all_goals clear h3 h8
  all_goals go_enter Tryd.func48, Tryd.ntmps48
  all_goals go_wp2
  all_goals go_ret
  all_goals exact ⟨ret_bool (by unfold cmpB; rw [Bool.eq_iff_iff]; simp), rfl⟩
set_option maxHeartbeats 1000000 in
theorem bits_i64 (b : Int) (_h1 : -9223372036854775808 ≤ b) (_h2 : b ≤ 9223372036854775807) (w : World) :
    Calls Tryd.prog 90 #[.int .i64 b] w fun e w' => e = .returned (.int .u64 (shN b)) ∧ w' = w := by
  by_cases h : b < 0
  · have HS : Hid (shN b = 64) := by show _ = _; unfold shN; rw [if_pos h]
    go_enter Tryd.func90, Tryd.ntmps90
    go_wp2
    go_ret
    exact ⟨ret_int (by rw [HS.out]), rfl⟩
  · have HS : Hid (shN b = b) := by show _ = _; unfold shN; rw [if_neg h]
    go_enter Tryd.func90, Tryd.ntmps90
    go_wp2
    go_ret
    exact ⟨ret_int (by rw [HS.out]), rfl⟩
end Go.Proofs.YtmmgpbjmegfffaaDoor.V
