import Derived.OpenShut
import Derived.ProofKit
import Derived.Test.YtabefhpgeaihgaaGreatDoorJ02
/-! Printed by gen_vcnt.py. -/
namespace Go.Proofs.YtabefhpgeaihgaaGreatDoor.V
open Go.RowKit Go.Shelf
set_option maxRecDepth 20000
set_option maxHeartbeats 1000000 in
theorem cmp_u8 (op a b : Int) (h3 : 3 ≤ op) (h8 : op ≤ 8) (w : World) :
    Calls Tryz.prog 75 #[.int .i64 op, .int .u8 a, .int .u8 b] w fun e w' => e = .returned (.bool (cmpB op a b)) ∧ w' = w := by
  obtain rfl | rfl | rfl | rfl | rfl | rfl : op = 3 ∨ op = 4 ∨ op = 5 ∨ op = 6 ∨ op = 7 ∨ op = 8 := by omega
  all_goals clear h3 h8
  all_goals go_enter Tryz.func75, Tryz.ntmps75
  all_goals go_wp2
  all_goals go_ret
  all_goals exact ⟨ret_bool (by unfold cmpB; rw [Bool.eq_iff_iff]; simp), rfl⟩
set_option maxHeartbeats 1000000 in
theorem bits_u8 (b : Int) (_h1 : 0 ≤ b) (_h2 : b ≤ 255) (w : World) :
    Calls Tryz.prog 102 #[.int .u8 b] w fun e w' => e = .returned (.int .u64 (shN b)) ∧ w' = w := by
  by_cases h : b < 0
  · have HS : Hid (shN b = 64) := by show _ = _; unfold shN; rw [if_pos h]
    go_enter Tryz.func102, Tryz.ntmps102
    go_wp2
    go_ret
    exact ⟨ret_int (by rw [HS.out]), rfl⟩
  · have HS : Hid (shN b = b) := by show _ = _; unfold shN; rw [if_neg h]
    go_enter Tryz.func102, Tryz.ntmps102
    go_wp2
    go_ret
    exact ⟨ret_int (by rw [HS.out]), rfl⟩
set_option maxHeartbeats 1000000 in
theorem cmp_u16 (op a b : Int) (h3 : 3 ≤ op) (h8 : op ≤ 8) (w : World) :
    Calls Tryz.prog 77 #[.int .i64 op, .int .u16 a, .int .u16 b] w fun e w' => e = .returned (.bool (cmpB op a b)) ∧ w' = w := by
  obtain rfl | rfl | rfl | rfl | rfl | rfl : op = 3 ∨ op = 4 ∨ op = 5 ∨ op = 6 ∨ op = 7 ∨ op = 8 := by omega
  all_goals clear h3 h8
  all_goals go_enter Tryz.func77, Tryz.ntmps77
  all_goals go_wp2
  all_goals go_ret
  all_goals exact ⟨ret_bool (by unfold cmpB; rw [Bool.eq_iff_iff]; simp), rfl⟩
set_option maxHeartbeats 1000000 in
theorem bits_u16 (b : Int) (_h1 : 0 ≤ b) (_h2 : b ≤ 65535) (w : World) :
    Calls Tryz.prog 103 #[.int .u16 b] w fun e w' => e = .returned (.int .u64 (shN b)) ∧ w' = w := by
  by_cases h : b < 0
  · have HS : Hid (shN b = 64) := by show _ = _; unfold shN; rw [if_pos h]
    go_enter Tryz.func103, Tryz.ntmps103
    go_wp2
    go_ret
    exact ⟨ret_int (by rw [HS.out]), rfl⟩
  · have HS : Hid (shN b = b) := by show _ = _; unfold shN; rw [if_neg h]
    go_enter Tryz.func103, Tryz.ntmps103
    go_wp2
    go_ret
    exact ⟨ret_int (by rw [HS.out]), rfl⟩
set_option maxHeartbeats 1000000 in
theorem cmp_u32 (op a b : Int) (h3 : 3 ≤ op) (h8 : op ≤ 8) (w : World) :
    Calls Tryz.prog 79 #[.int .i64 op, .int .u32 a, .int .u32 b] w fun e w' => e = .returned (.bool (cmpB op a b)) ∧ w' = w := by
  obtain rfl | rfl | rfl | rfl | rfl | rfl : op = 3 ∨ op = 4 ∨ op = 5 ∨ op = 6 ∨ op = 7 ∨ op = 8 := by omega
  all_goals clear h3 h8
  all_goals go_enter Tryz.func79, Tryz.ntmps79
  all_goals go_wp2
  all_goals go_ret
  all_goals exact ⟨ret_bool (by unfold cmpB; rw [Bool.eq_iff_iff]; simp), rfl⟩
set_option maxHeartbeats 1000000 in
theorem bits_u32 (b : Int) (_h1 : 0 ≤ b) (_h2 : b ≤ 4294967295) (w : World) :
    Calls Tryz.prog 104 #[.int .u32 b] w fun e w' => e = .returned (.int .u64 (shN b)) ∧ w' = w := by
  by_cases h : b < 0
  · have HS : Hid (shN b = 64) := by show _ = _; unfold shN; rw [if_pos h]
    go_enter Tryz.func104, Tryz.ntmps104
    go_wp2
    go_ret
    exact ⟨ret_int (by rw [HS.out]), rfl⟩
  · have HS : Hid (shN b = b) := by show _ = _; unfold shN; rw [if_neg h]
    go_enter Tryz.func104, Tryz.ntmps104
    go_wp2
    go_ret
    exact ⟨ret_int (by rw [HS.out]), rfl⟩
set_option maxHeartbeats 1000000 in
theorem cmp_u64 (op a b : Int) (h3 : 3 ≤ op) (h8 : op ≤ 8) (w : World) :
    Calls Tryz.prog 81 #[.int .i64 op, .int .u64 a, .int .u64 b] w fun e w' => e = .returned (.bool (cmpB op a b)) ∧ w' = w := by
  obtain rfl | rfl | rfl | rfl | rfl | rfl : op = 3 ∨ op = 4 ∨ op = 5 ∨ op = 6 ∨ op = 7 ∨ op = 8 := by omega
  all_goals clear h3 h8
  all_goals go_enter Tryz.func81, Tryz.ntmps81
  all_goals go_wp2
  all_goals go_ret
  all_goals exact ⟨ret_bool (by unfold cmpB; rw [Bool.eq_iff_iff]; simp), rfl⟩
set_option maxHeartbeats 1000000 in
theorem bits_u64 (b : Int) (_h1 : 0 ≤ b) (_h2 : b ≤ 18446744073709551615) (w : World) :
    Calls Tryz.prog 105 #[.int .u64 b] w fun e w' => e = .returned (.int .u64 (shN b)) ∧ w' = w := by
  by_cases h : b < 0
  · have HS : Hid (shN b = 64) := by show _ = _; unfold shN; rw [if_pos h]
    go_enter Tryz.func105, Tryz.ntmps105
    go_wp2
    go_ret
    exact ⟨ret_int (by rw [HS.out]), rfl⟩
  · have HS : Hid (shN b = b) := by show _ = _; unfold shN; rw [if_neg h]
    go_enter Tryz.func105, Tryz.ntmps105
    go_wp2
    go_ret
    exact ⟨ret_int (by rw [HS.out]), rfl⟩
set_option maxHeartbeats 1000000 in
theorem cmp_i8 (op a b : Int) (h3 : 3 ≤ op) (h8 : op ≤ 8) (w : World) :
    Calls Tryz.prog 83 #[.int .i64 op, .int .i8 a, .int .i8 b] w fun e w' => e = .returned (.bool (cmpB op a b)) ∧ w' = w := by
  obtain rfl | rfl | rfl | rfl | rfl | rfl : op = 3 ∨ op = 4 ∨ op = 5 ∨ op = 6 ∨ op = 7 ∨ op = 8 := by omega
  all_goals clear h3 h8
  all_goals go_enter Tryz.func83, Tryz.ntmps83
  all_goals go_wp2
  all_goals go_ret
  all_goals exact ⟨ret_bool (by unfold cmpB; rw [Bool.eq_iff_iff]; simp), rfl⟩
set_option maxHeartbeats 1000000 in
theorem bits_i8 (b : Int) (_h1 : -128 ≤ b) (_h2 : b ≤ 127) (w : World) :
    Calls Tryz.prog 106 #[.int .i8 b] w fun e w' => e = .returned (.int .u64 (shN b)) ∧ w' = w := by
  by_cases h : b < 0
  · have HS : Hid (shN b = 64) := by show _ = _; unfold shN; rw [if_pos h]
    go_enter Tryz.func106, Tryz.ntmps106
    go_wp2
    go_ret
    exact ⟨ret_int (by rw [HS.out]), rfl⟩
  · have HS : Hid (shN b = b) := by show _ = _; unfold shN; rw [if_neg h]
    go_enter Tryz.func106, Tryz.ntmps106
    go_wp2
    go_ret
    exact ⟨ret_int (by rw [HS.out]), rfl⟩
set_option maxHeartbeats 1000000 in
theorem cmp_i16 (op a b : Int) (h3 : 3 ≤ op) (h8 : op ≤ 8) (w : World) :
    Calls Tryz.prog 85 #[.int .i64 op, .int .i16 a, .int .i16 b] w fun e w' => e = .returned (.bool (cmpB op a b)) ∧ w' = w := by
  obtain rfl | rfl | rfl | rfl | rfl | rfl : op = 3 ∨ op = 4 ∨ op = 5 ∨ op = 6 ∨ op = 7 ∨ op = 8 := by omega
  all_goals clear h3 h8
  all_goals go_enter Tryz.func85, Tryz.ntmps85
  all_goals go_wp2
  all_goals go_ret
  all_goals exact ⟨ret_bool (by unfold cmpB; rw [Bool.eq_iff_iff]; simp), rfl⟩
set_option maxHeartbeats 1000000 in
theorem bits_i16 (b : Int) (_h1 : -32768 ≤ b) (_h2 : b ≤ 32767) (w : World) :
    Calls Tryz.prog 107 #[.int .i16 b] w fun e w' => e = .returned (.int .u64 (shN b)) ∧ w' = w := by
  by_cases h : b < 0
  · have HS : Hid (shN b = 64) := by show _ = _; unfold shN; rw [if_pos h]
    go_enter Tryz.func107, Tryz.ntmps107
    go_wp2
    go_ret
    exact ⟨ret_int (by rw [HS.out]), rfl⟩
  · have HS : Hid (shN b = b) := by show _ = _; unfold shN; rw [if_neg h]
    go_enter Tryz.func107, Tryz.ntmps107
    go_wp2
    go_ret
    exact ⟨ret_int (by rw [HS.out]), rfl⟩
set_option maxHeartbeats 1000000 in
theorem cmp_i32 (op a b : Int) (h3 : 3 ≤ op) (h8 : op ≤ 8) (w : World) :
    Calls Tryz.prog 87 #[.int .i64 op, .int .i32 a, .int .i32 b] w fun e w' => e = .returned (.bool (cmpB op a b)) ∧ w' = w := by
  obtain rfl | rfl | rfl | rfl | rfl | rfl : op = 3 ∨ op = 4 ∨ op = 5 ∨ op = 6 ∨ op = 7 ∨ op = 8 := by omega
  all_goals clear h3 h8
  all_goals go_enter Tryz.func87, Tryz.ntmps87
  all_goals go_wp2
  all_goals go_ret
  all_goals exact ⟨ret_bool (by unfold cmpB; rw [Bool.eq_iff_iff]; simp), rfl⟩
set_option maxHeartbeats 1000000 in
theorem bits_i32 (b : Int) (_h1 : -2147483648 ≤ b) (_h2 : b ≤ 2147483647) (w : World) :
    Calls Tryz.prog 108 #[.int .i32 b] w fun e w' => e = .returned (.int .u64 (shN b)) ∧ w' = w := by
  by_cases h : b < 0
  · have HS : Hid (shN b = 64) := by show _ = _; unfold shN; rw [if_pos h]
    go_enter Tryz.func108, Tryz.ntmps108
    go_wp2
    go_ret
    exact ⟨ret_int (by rw [HS.out]), rfl⟩
  · have HS : Hid (shN b = b) := by show _ = _; unfold shN; rw [if_neg h]
    go_enter Tryz.func108, Tryz.ntmps108
    go_wp2
    go_ret
    exact ⟨ret_int (by rw [HS.out]), rfl⟩
set_option maxHeartbeats 1000000 in
theorem cmp_i64 (op a b : Int) (h3 : 3 ≤ op) (h8 : op ≤ 8) (w : World) :
    Calls Tryz.prog 54 #[.int .i64 op, .int .i64 a, .int .i64 b] w fun e w' => e = .returned (.bool (cmpB op a b)) ∧ w' = w := by
  obtain rfl | rfl | rfl | rfl | rfl | rfl : op = 3 ∨ op = 4 ∨ op = 5 ∨ op = 6 ∨ op = 7 ∨ op = 8 := by omega
  all_goals clear h3 h8
  all_goals go_enter Tryz.func54, Tryz.ntmps54
  all_goals go_wp2
  all_goals go_ret
  all_goals exact ⟨ret_bool (by unfold cmpB; rw [Bool.eq_iff_iff]; simp), rfl⟩
set_option maxHeartbeats 1000000 in
theorem bits_i64 (b : Int) (_h1 : -9223372036854775808 ≤ b) (_h2 : b ≤ 9223372036854775807) (w : World) :
    Calls Tryz.prog 109 #[.int .i64 b] w fun e w' => e = .returned (.int .u64 (shN b)) ∧ w' = w := by
  by_cases h : b < 0
  · have HS : Hid (shN b = 64) := by show _ = _; unfold shN; rw [if_pos h]
    go_enter Tryz.func109, Tryz.ntmps109
    go_wp2
    go_ret
    exact ⟨ret_int (by rw [HS.out]), rfl⟩
  · have HS : Hid (shN b = b) := by show _ = _; unfold shN; rw [if_neg h]
    go_enter Tryz.func109, Tryz.ntmps109
    go_wp2
    go_ret
    exact ⟨ret_int (by rw [HS.out]), rfl⟩
end Go.Proofs.YtabefhpgeaihgaaGreatDoor.V
/-! A value that came in. -/
namespace Go.Proofs.YtabefhpgeaihgaaGreatDoor.V
open Go.ChangeShapes Go.WideShapes Go.ChangeAt Go.RowKit
set_option maxRecDepth 20000
theorem cellsStr : Tryz.prog.cellsOf 9 = 1 := by kernel_rfl
theorem cellsInt : Tryz.prog.cellsOf 3 = 1 := by kernel_rfl
theorem cellsI64 : Tryz.prog.cellsOf 2 = 1 := by kernel_rfl
end Go.Proofs.YtabefhpgeaihgaaGreatDoor.V
/-! What the laws do with a value that came in. -/
namespace Go.Proofs.YtabefhpgeaihgaaGreatDoor.V
open Go.RowKit Go.Shelf
set_option maxRecDepth 20000
theorem alloc2 (w : World) (a b : Obj) : Below w.heap.size w ((w.alloc a).alloc b) := (alloc_below w a).alloc (by simp) b
theorem alloc3 (w : World) (a b c : Obj) : Below w.heap.size w (((w.alloc a).alloc b).alloc c) := (alloc2 w a b).alloc (by simp; omega) c
end Go.Proofs.YtabefhpgeaihgaaGreatDoor.V
