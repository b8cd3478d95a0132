import Derived.Test.YtcjgmmiafflgnaaDoorVValid
/-! Printed by gen_vcnt.py. -/
namespace Go.Proofs.YtcjgmmiafflgnaaDoor.V
open Go.RowKit Go.Shelf
set_option maxRecDepth 20000
set_option maxHeartbeats 1000000 in
theorem cmp_u8 (op a b : Int) (h3 : 3 ≤ op) (h8 : op ≤ 8) (w : World) :
    Calls Tryd.prog 73 #[.int .i64 op, .int .u8 a, .int .u8 b] w fun e w' => e = .returned (.bool (cmpB op a b)) ∧ w' = w := by
  obtain rfl | rfl | rfl | rfl | rfl | rfl : op = 3 ∨ op = 4 ∨ op = 5 ∨ op = 6 ∨ op = 7 ∨ op = 8 := by omega
  all_goals clear h3 h8
  all_goals go_enter Tryd.func73, Tryd.ntmps73
  all_goals go_wp2
  all_goals go_ret
  all_goals exact ⟨ret_bool (by unfold cmpB; rw [Bool.eq_iff_iff]; simp), rfl⟩
set_option maxHeartbeats 1000000 in
theorem bits_u8 (b : Int) (_h1 : 0 ≤ b) (_h2 : b ≤ 255) (w : World) :
    Calls Tryd.prog 92 #[.int .u8 b] w fun e w' => e = .returned (.int .u64 (shN b)) ∧ w' = w := by
  by_cases h : b < 0
  · have HS : Hid (shN b = 64) := by show _ = _; unfold shN; rw [if_pos h]
    go_enter Tryd.func92, Tryd.ntmps92
    go_wp2
    go_ret
    exact ⟨ret_int (by rw [HS.out]), rfl⟩
  · have HS : Hid (shN b = b) := by show _ = _; unfold shN; rw [if_neg h]
    go_enter Tryd.func92, Tryd.ntmps92
    go_wp2
    go_ret
    exact ⟨ret_int (by rw [HS.out]), rfl⟩
set_option maxHeartbeats 1000000 in
theorem cmp_u16 (op a b : Int) (h3 : 3 ≤ op) (h8 : op ≤ 8) (w : World) :
    Calls Tryd.prog 75 #[.int .i64 op, .int .u16 a, .int .u16 b] w fun e w' => e = .returned (.bool (cmpB op a b)) ∧ w' = w := by
  obtain rfl | rfl | rfl | rfl | rfl | rfl : op = 3 ∨ op = 4 ∨ op = 5 ∨ op = 6 ∨ op = 7 ∨ op = 8 := by omega
  all_goals clear h3 h8
  all_goals go_enter Tryd.func75, Tryd.ntmps75
  all_goals go_wp2
  all_goals go_ret
  all_goals exact ⟨ret_bool (by unfold cmpB; rw [Bool.eq_iff_iff]; simp), rfl⟩
set_option maxHeartbeats 1000000 in
theorem bits_u16 (b : Int) (_h1 : 0 ≤ b) (_h2 : b ≤ 65535) (w : World) :
    Calls Tryd.prog 93 #[.int .u16 b] w fun e w' => e = .returned (.int .u64 (shN b)) ∧ w' = w := by
  by_cases h : b < 0
  · have HS : Hid (shN b = 64) := by show _ = _; unfold shN; rw [if_pos h]
    go_enter Tryd.func93, Tryd.ntmps93
    go_wp2
    go_ret
    exact ⟨ret_int (by rw [HS.out]), rfl⟩
  · have HS : Hid (shN b = b) := by show _ = _; unfold shN; rw [if_neg h]
    go_enter Tryd.func93, Tryd.ntmps93
    go_wp2
    go_ret
    exact ⟨ret_int (by rw [HS.out]), rfl⟩
set_option maxHeartbeats 1000000 in
theorem cmp_u32 (op a b : Int) (h3 : 3 ≤ op) (h8 : op ≤ 8) (w : World) :
    Calls Tryd.prog 77 #[.int .i64 op, .int .u32 a, .int .u32 b] w fun e w' => e = .returned (.bool (cmpB op a b)) ∧ w' = w := by
  obtain rfl | rfl | rfl | rfl | rfl | rfl : op = 3 ∨ op = 4 ∨ op = 5 ∨ op = 6 ∨ op = 7 ∨ op = 8 := by omega
  all_goals clear h3 h8
  all_goals go_enter Tryd.func77, Tryd.ntmps77
  all_goals go_wp2
  all_goals go_ret
  all_goals exact ⟨ret_bool (by unfold cmpB; rw [Bool.eq_iff_iff]; simp), rfl⟩
set_option maxHeartbeats 1000000 in
theorem bits_u32 (b : Int) (_h1 : 0 ≤ b) (_h2 : b ≤ 4294967295) (w : World) :
    Calls Tryd.prog 94 #[.int .u32 b] w fun e w' => e = .returned (.int .u64 (shN b)) ∧ w' = w := by
  by_cases h : b < 0
  · have HS : Hid (shN b = 64) := by show _ = _; unfold shN; rw [if_pos h]
    go_enter Tryd.func94, Tryd.ntmps94
    go_wp2
    go_ret
    exact ⟨ret_int (by rw [HS.out]), rfl⟩
  · have HS : Hid (shN b = b) := by show _ = _; unfold shN; rw [if_neg h]
    go_enter Tryd.func94, Tryd.ntmps94
    go_wp2
    go_ret
    exact ⟨ret_int (by rw [HS.out]), rfl⟩
set_option maxHeartbeats 1000000 in
theorem cmp_u64 (op a b : Int) (h3 : 3 ≤ op) (h8 : op ≤ 8) (w : World) :
    Calls Tryd.prog 79 #[.int .i64 op, .int .u64 a, .int .u64 b] w fun e w' => e = .returned (.bool (cmpB op a b)) ∧ w' = w := by
  obtain rfl | rfl | rfl | rfl | rfl | rfl : op = 3 ∨ op = 4 ∨ op = 5 ∨ op = 6 ∨ op = 7 ∨ op = 8 := by omega
  all_goals clear h3 h8
  all_goals go_enter Tryd.func79, Tryd.ntmps79
  all_goals go_wp2
  all_goals go_ret
  all_goals exact ⟨ret_bool (by unfold cmpB; rw [Bool.eq_iff_iff]; simp), rfl⟩
set_option maxHeartbeats 1000000 in
theorem bits_u64 (b : Int) (_h1 : 0 ≤ b) (_h2 : b ≤ 18446744073709551615) (w : World) :
    Calls Tryd.prog 95 #[.int .u64 b] w fun e w' => e = .returned (.int .u64 (shN b)) ∧ w' = w := by
  by_cases h : b < 0
  · have HS : Hid (shN b = 64) := by show _ = _; unfold shN; rw [if_pos h]
    go_enter Tryd.func95, Tryd.ntmps95
    go_wp2
    go_ret
    exact ⟨ret_int (by rw [HS.out]), rfl⟩
  · have HS : Hid (shN b = b) := by show _ = _; unfold shN; rw [if_neg h]
    go_enter Tryd.func95, Tryd.ntmps95
    go_wp2
    go_ret
    exact ⟨ret_int (by rw [HS.out]), rfl⟩
set_option maxHeartbeats 1000000 in
theorem cmp_i8 (op a b : Int) (h3 : 3 ≤ op) (h8 : op ≤ 8) (w : World) :
    Calls Tryd.prog 81 #[.int .i64 op, .int .i8 a, .int .i8 b] w fun e w' => e = .returned (.bool (cmpB op a b)) ∧ w' = w := by
  obtain rfl | rfl | rfl | rfl | rfl | rfl : op = 3 ∨ op = 4 ∨ op = 5 ∨ op = 6 ∨ op = 7 ∨ op = 8 := by omega
  all_goals clear h3 h8
  all_goals go_enter Tryd.func81, Tryd.ntmps81
  all_goals go_wp2
  all_goals go_ret
  all_goals exact ⟨ret_bool (by unfold cmpB; rw [Bool.eq_iff_iff]; simp), rfl⟩
set_option maxHeartbeats 1000000 in
theorem bits_i8 (b : Int) (_h1 : -128 ≤ b) (_h2 : b ≤ 127) (w : World) :
    Calls Tryd.prog 96 #[.int .i8 b] w fun e w' => e = .returned (.int .u64 (shN b)) ∧ w' = w := by
  by_cases h : b < 0
  · have HS : Hid (shN b = 64) := by show _ = _; unfold shN; rw [if_pos h]
    go_enter Tryd.func96, Tryd.ntmps96
    go_wp2
    go_ret
    exact ⟨ret_int (by rw [HS.out]), rfl⟩
  · have HS : Hid (shN b = b) := by show _ = _; unfold shN; rw [if_neg h]
    go_enter Tryd.func96, Tryd.ntmps96
    go_wp2
    go_ret
    exact ⟨ret_int (by rw [HS.out]), rfl⟩
set_option maxHeartbeats 1000000 in
theorem cmp_i16 (op a b : Int) (h3 : 3 ≤ op) (h8 : op ≤ 8) (w : World) :
    Calls Tryd.prog 83 #[.int .i64 op, .int .i16 a, .int .i16 b] w fun e w' => e = .returned (.bool (cmpB op a b)) ∧ w' = w := by
  obtain rfl | rfl | rfl | rfl | rfl | rfl : op = 3 ∨ op = 4 ∨ op = 5 ∨ op = 6 ∨ op = 7 ∨ op = 8 := by omega
  all_goals clear h3 h8
  all_goals go_enter Tryd.func83, Tryd.ntmps83
  all_goals go_wp2
  all_goals go_ret
  all_goals exact ⟨ret_bool (by unfold cmpB; rw [Bool.eq_iff_iff]; simp), rfl⟩
set_option maxHeartbeats 1000000 in
theorem bits_i16 (b : Int) (_h1 : -32768 ≤ b) (_h2 : b ≤ 32767) (w : World) :
    Calls Tryd.prog 97 #[.int .i16 b] w fun e w' => e = .returned (.int .u64 (shN b)) ∧ w' = w := by
  by_cases h : b < 0
  · have HS : Hid (shN b = 64) := by show _ = _; unfold shN; rw [if_pos h]
    go_enter Tryd.func97, Tryd.ntmps97
    go_wp2
    go_ret
    exact ⟨ret_int (by rw [HS.out]), rfl⟩
  · have HS : Hid (shN b = b) := by show _ = _; unfold shN; rw [if_neg h]
    go_enter Tryd.func97, Tryd.ntmps97
    go_wp2
    go_ret
    exact ⟨ret_int (by rw [HS.out]), rfl⟩
set_option maxHeartbeats 1000000 in
theorem cmp_i32 (op a b : Int) (h3 : 3 ≤ op) (h8 : op ≤ 8) (w : World) :
    Calls Tryd.prog 85 #[.int .i64 op, .int .i32 a, .int .i32 b] w fun e w' => e = .returned (.bool (cmpB op a b)) ∧ w' = w := by
  obtain rfl | rfl | rfl | rfl | rfl | rfl : op = 3 ∨ op = 4 ∨ op = 5 ∨ op = 6 ∨ op = 7 ∨ op = 8 := by omega
  all_goals clear h3 h8
  all_goals go_enter Tryd.func85, Tryd.ntmps85
  all_goals go_wp2
  all_goals go_ret
  all_goals exact ⟨ret_bool (by unfold cmpB; rw [Bool.eq_iff_iff]; simp), rfl⟩
set_option maxHeartbeats 1000000 in
theorem bits_i32 (b : Int) (_h1 : -2147483648 ≤ b) (_h2 : b ≤ 2147483647) (w : World) :
    Calls Tryd.prog 98 #[.int .i32 b] w fun e w' => e = .returned (.int .u64 (shN b)) ∧ w' = w := by
  by_cases h : b < 0
  · have HS : Hid (shN b = 64) := by show _ = _; unfold shN; rw [if_pos h]
    go_enter Tryd.func98, Tryd.ntmps98
    go_wp2
    go_ret
    exact ⟨ret_int (by rw [HS.out]), rfl⟩
  · have HS : Hid (shN b = b) := by show _ = _; unfold shN; rw [if_neg h]
    go_enter Tryd.func98, Tryd.ntmps98
    go_wp2
    go_ret
    exact ⟨ret_int (by rw [HS.out]), rfl⟩
set_option maxHeartbeats 1000000 in
theorem cmp_i64 (op a b : Int) (h3 : 3 ≤ op) (h8 : op ≤ 8) (w : World) :
    Calls Tryd.prog 67 #[.int .i64 op, .int .i64 a, .int .i64 b] w fun e w' => e = .returned (.bool (cmpB op a b)) ∧ w' = w := by
  obtain rfl | rfl | rfl | rfl | rfl | rfl : op = 3 ∨ op = 4 ∨ op = 5 ∨ op = 6 ∨ op = 7 ∨ op = 8 := by omega
  all_goals clear h3 h8
  all_goals go_enter Tryd.func67, Tryd.ntmps67
  all_goals go_wp2
  all_goals go_ret
  all_goals exact ⟨ret_bool (by unfold cmpB; rw [Bool.eq_iff_iff]; simp), rfl⟩
set_option maxHeartbeats 1000000 in
theorem bits_i64 (b : Int) (_h1 : -9223372036854775808 ≤ b) (_h2 : b ≤ 9223372036854775807) (w : World) :
    Calls Tryd.prog 99 #[.int .i64 b] w fun e w' => e = .returned (.int .u64 (shN b)) ∧ w' = w := by
  by_cases h : b < 0
  · have HS : Hid (shN b = 64) := by show _ = _; unfold shN; rw [if_pos h]
    go_enter Tryd.func99, Tryd.ntmps99
    go_wp2
    go_ret
    exact ⟨ret_int (by rw [HS.out]), rfl⟩
  · have HS : Hid (shN b = b) := by show _ = _; unfold shN; rw [if_neg h]
    go_enter Tryd.func99, Tryd.ntmps99
    go_wp2
    go_ret
    exact ⟨ret_int (by rw [HS.out]), rfl⟩
end Go.Proofs.YtcjgmmiafflgnaaDoor.V
