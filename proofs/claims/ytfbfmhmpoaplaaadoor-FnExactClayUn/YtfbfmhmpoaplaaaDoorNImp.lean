import Derived.Test.YtfbfmhmpoaplaaaDoorIMeth
namespace Go.Proofs.YtfbfmhmpoaplaaaDoor
open Go.RowKit
set_option maxRecDepth 20000
set_option maxHeartbeats 2000000 in
theorem counted_pos (n : Int) (w : World) (h0 : 0 < n) (hr : n ≤ 9223372036854775807) :
    Calls Tryd.prog 48 #[.int .i64 11, .int .i64 0, .int .i64 n] w fun e w' => e = .returned (.tuple #[.iface 90 (.int .i64 (-n)), .string ⟨#[]⟩]) ∧ w' = w := by
  have hn : (n == 0) = false := by simp; omega
  have hw : IntKind.i64.wrap (0 - n) = -n := by rw [IntKind.wrap_i64]; omega
  have hw2 : IntKind.i64.wrap (-n) = -n := by rw [IntKind.wrap_i64]; omega
  have h1 : -n < 0 := by omega
  go_enter Tryd.func48, Tryd.ntmps48
  go_wp2
  exact bodyPost_ret (v := .tuple #[.iface 90 (.int .i64 (-n)), .string ⟨#[]⟩]) (by simp [results, Tryd.results48, go_sem]) rfl ⟨rfl, rfl⟩
set_option maxHeartbeats 2000000 in
theorem counted_neg (n : Int) (w : World) (h0 : n < 0) (hr : -9223372036854775808 < n) :
    Calls Tryd.prog 48 #[.int .i64 11, .int .i64 0, .int .i64 n] w fun e w' => e = .returned (.tuple #[.iface 90 (.int .i64 (-n)), .string ⟨#[]⟩]) ∧ w' = w := by
  have hn : (n == 0) = false := by simp; omega
  have hw : IntKind.i64.wrap (0 - n) = -n := by rw [IntKind.wrap_i64]; omega
  have hw2 : IntKind.i64.wrap (-n) = -n := by rw [IntKind.wrap_i64]; omega
  have h1 : ¬ -n < 0 := by omega
  have h2 : ¬ 0 < n := by omega
  go_enter Tryd.func48, Tryd.ntmps48
  go_wp2
  exact bodyPost_ret (v := .tuple #[.iface 90 (.int .i64 (-n)), .string ⟨#[]⟩]) (by simp [results, Tryd.results48, go_sem]) rfl ⟨rfl, rfl⟩
set_option maxHeartbeats 2000000 in
theorem counted_zero (w : World) :
    Calls Tryd.prog 48 #[.int .i64 11, .int .i64 0, .int .i64 0] w fun e w' => e = .returned (.tuple #[.iface 90 (.int .i64 0), .string ⟨#[]⟩]) ∧ w' = w := by
  go_enter Tryd.func48, Tryd.ntmps48
  go_wp2
  exact bodyPost_ret (v := .tuple #[.iface 90 (.int .i64 0), .string ⟨#[]⟩]) (by simp [results, Tryd.results48, go_sem]) rfl ⟨rfl, rfl⟩
set_option maxHeartbeats 2000000 in
theorem counted_min (w : World) :
    Calls Tryd.prog 48 #[.int .i64 11, .int .i64 0, .int .i64 (-9223372036854775808)] w fun e w' => e = .returned (.tuple #[.nilIface, .string ⟨#[114, 97, 110, 103, 101]⟩]) ∧ w' = w := by
  have hw : IntKind.i64.wrap (0 - -9223372036854775808) = -9223372036854775808 := by rw [IntKind.wrap_i64]; omega
  have hw2 : IntKind.i64.wrap 9223372036854775808 = -9223372036854775808 := by rw [IntKind.wrap_i64]; omega
  go_enter Tryd.func48, Tryd.ntmps48
  go_wp2
  exact bodyPost_ret (v := .tuple #[.nilIface, .string ⟨#[114, 97, 110, 103, 101]⟩]) (by simp [results, Tryd.results48, go_sem]) rfl ⟨rfl, rfl⟩
theorem counted_sub (n : Int) (w : World) (hr : -9223372036854775808 < n) (hr2 : n ≤ 9223372036854775807) :
    Calls Tryd.prog 48 #[.int .i64 11, .int .i64 0, .int .i64 n] w fun e w' => e = .returned (.tuple #[.iface 90 (.int .i64 (-n)), .string ⟨#[]⟩]) ∧ w' = w := by
  rcases Int.lt_trichotomy n 0 with h | h | h
  · exact counted_neg n w h hr
  · subst h; exact counted_zero w
  · exact counted_pos n w h hr2
theorem unBoolNone (W : World) : (Instr.typeAssert (.iface 95 (.agg #[])) 43 89 true).run Tryd.prog W = .ok (.tuple #[.bool false, .bool false]) W := by kernel_rfl
theorem utBool (b : Bool) (W : World) : (Instr.typeAssert (.iface 89 (.bool b)) 43 89 true).run Tryd.prog W = .ok (.tuple #[.bool b, .bool true]) W := by kernel_rfl
theorem unBoolInt (n : Int) (W : World) : (Instr.typeAssert (.iface 90 (.int .i64 n)) 43 89 true).run Tryd.prog W = .ok (.tuple #[.bool false, .bool false]) W := by kernel_rfl
theorem unBoolText (s : ByteArray) (W : World) : (Instr.typeAssert (.iface 72 (.string s)) 43 89 true).run Tryd.prog W = .ok (.tuple #[.bool false, .bool false]) W := by kernel_rfl
theorem unBoolList (a b : Int) (ad : Option Addr) (m c : Nat) (W : World) : (Instr.typeAssert (.iface 77 (.agg #[.int .i64 a, .int .i64 b, .slice ad m c])) 43 89 true).run Tryd.prog W = .ok (.tuple #[.bool false, .bool false]) W := by kernel_rfl
theorem unBoolRec (a b : Int) (ad : Option Addr) (m c : Nat) (W : World) : (Instr.typeAssert (.iface 81 (.agg #[.int .i64 a, .int .i64 b, .slice ad m c])) 43 89 true).run Tryd.prog W = .ok (.tuple #[.bool false, .bool false]) W := by kernel_rfl
theorem unIntNone (W : World) : (Instr.typeAssert (.iface 95 (.agg #[])) 43 90 true).run Tryd.prog W = .ok (.tuple #[.int .i64 0, .bool false]) W := by kernel_rfl
theorem unIntBool (b : Bool) (W : World) : (Instr.typeAssert (.iface 89 (.bool b)) 43 90 true).run Tryd.prog W = .ok (.tuple #[.int .i64 0, .bool false]) W := by kernel_rfl
theorem utInt (n : Int) (W : World) : (Instr.typeAssert (.iface 90 (.int .i64 n)) 43 90 true).run Tryd.prog W = .ok (.tuple #[.int .i64 n, .bool true]) W := by kernel_rfl
theorem unIntText (s : ByteArray) (W : World) : (Instr.typeAssert (.iface 72 (.string s)) 43 90 true).run Tryd.prog W = .ok (.tuple #[.int .i64 0, .bool false]) W := by kernel_rfl
theorem unIntList (a b : Int) (ad : Option Addr) (m c : Nat) (W : World) : (Instr.typeAssert (.iface 77 (.agg #[.int .i64 a, .int .i64 b, .slice ad m c])) 43 90 true).run Tryd.prog W = .ok (.tuple #[.int .i64 0, .bool false]) W := by kernel_rfl
theorem unIntRec (a b : Int) (ad : Option Addr) (m c : Nat) (W : World) : (Instr.typeAssert (.iface 81 (.agg #[.int .i64 a, .int .i64 b, .slice ad m c])) 43 90 true).run Tryd.prog W = .ok (.tuple #[.int .i64 0, .bool false]) W := by kernel_rfl
set_option maxHeartbeats 1000000 in
theorem unOf_none (op : Int) (w : World) : Calls Tryd.prog 30 #[.int .i64 op, .iface 95 (.agg #[])] w fun e w' => e = .returned (.tuple #[.nilIface, .string ⟨#[116, 121, 112, 101]⟩]) ∧ w' = w := by
  have t1 := unBoolNone
  have t2 := unIntNone
  go_enter Tryd.func30, Tryd.ntmps30
  go_wp2
  exact bodyPost_ret (v := .tuple #[.nilIface, .string ⟨#[116, 121, 112, 101]⟩]) (by simp [results, Tryd.results30, go_sem]) rfl ⟨rfl, rfl⟩
set_option maxHeartbeats 1000000 in
theorem unOf_text (op : Int) (s : ByteArray) (w : World) : Calls Tryd.prog 30 #[.int .i64 op, .iface 72 (.string s)] w fun e w' => e = .returned (.tuple #[.nilIface, .string ⟨#[116, 121, 112, 101]⟩]) ∧ w' = w := by
  have t1 := unBoolText s
  have t2 := unIntText s
  go_enter Tryd.func30, Tryd.ntmps30
  go_wp2
  exact bodyPost_ret (v := .tuple #[.nilIface, .string ⟨#[116, 121, 112, 101]⟩]) (by simp [results, Tryd.results30, go_sem]) rfl ⟨rfl, rfl⟩
set_option maxHeartbeats 1000000 in
theorem unOf_list (op : Int) (a b : Int) (ad : Option Addr) (m c : Nat) (w : World) : Calls Tryd.prog 30 #[.int .i64 op, .iface 77 (.agg #[.int .i64 a, .int .i64 b, .slice ad m c])] w fun e w' => e = .returned (.tuple #[.nilIface, .string ⟨#[116, 121, 112, 101]⟩]) ∧ w' = w := by
  have t1 := unBoolList a b ad m c
  have t2 := unIntList a b ad m c
  go_enter Tryd.func30, Tryd.ntmps30
  go_wp2
  exact bodyPost_ret (v := .tuple #[.nilIface, .string ⟨#[116, 121, 112, 101]⟩]) (by simp [results, Tryd.results30, go_sem]) rfl ⟨rfl, rfl⟩
set_option maxHeartbeats 1000000 in
theorem unOf_rec (op : Int) (a b : Int) (ad : Option Addr) (m c : Nat) (w : World) : Calls Tryd.prog 30 #[.int .i64 op, .iface 81 (.agg #[.int .i64 a, .int .i64 b, .slice ad m c])] w fun e w' => e = .returned (.tuple #[.nilIface, .string ⟨#[116, 121, 112, 101]⟩]) ∧ w' = w := by
  have t1 := unBoolRec a b ad m c
  have t2 := unIntRec a b ad m c
  go_enter Tryd.func30, Tryd.ntmps30
  go_wp2
  exact bodyPost_ret (v := .tuple #[.nilIface, .string ⟨#[116, 121, 112, 101]⟩]) (by simp [results, Tryd.results30, go_sem]) rfl ⟨rfl, rfl⟩
set_option maxHeartbeats 1000000 in
theorem unOf_not (b : Bool) (w : World) : Calls Tryd.prog 30 #[.int .i64 1, .iface 89 (.bool b)] w fun e w' => e = .returned (.tuple #[.iface 89 (.bool (!b)), .string ⟨#[]⟩]) ∧ w' = w := by
  have t1 := utBool b
  go_enter Tryd.func30, Tryd.ntmps30
  go_wp2
  exact bodyPost_ret (v := .tuple #[.iface 89 (.bool (!b)), .string ⟨#[]⟩]) (by simp [results, Tryd.results30, go_sem]) rfl ⟨rfl, rfl⟩
set_option maxHeartbeats 1000000 in
theorem unOf_bool (op : Int) (b : Bool) (w : World) (ho : ¬ op = 1) : Calls Tryd.prog 30 #[.int .i64 op, .iface 89 (.bool b)] w fun e w' => e = .returned (.tuple #[.nilIface, .string ⟨#[116, 121, 112, 101]⟩]) ∧ w' = w := by
  have t1 := utBool b
  have h1 : (op == 1) = false := by simpa using ho
  go_enter Tryd.func30, Tryd.ntmps30
  go_wp2
  exact bodyPost_ret (v := .tuple #[.nilIface, .string ⟨#[116, 121, 112, 101]⟩]) (by simp [results, Tryd.results30, go_sem]) rfl ⟨rfl, rfl⟩
set_option maxHeartbeats 1000000 in
theorem unOf_int (op n : Int) (w : World) (ho : ¬ op = 2) : Calls Tryd.prog 30 #[.int .i64 op, .iface 90 (.int .i64 n)] w fun e w' => e = .returned (.tuple #[.nilIface, .string ⟨#[116, 121, 112, 101]⟩]) ∧ w' = w := by
  have t1 := utInt n
  have t2 := unBoolInt n
  have h1 : (op == 2) = false := by simpa using ho
  go_enter Tryd.func30, Tryd.ntmps30
  go_wp2
  exact bodyPost_ret (v := .tuple #[.nilIface, .string ⟨#[116, 121, 112, 101]⟩]) (by simp [results, Tryd.results30, go_sem]) rfl ⟨rfl, rfl⟩
set_option maxHeartbeats 1000000 in
theorem unOf_neg (n : Int) (u : Value) (s : ByteArray) (w : World) (hc : Calls Tryd.prog 48 #[.int .i64 11, .int .i64 0, .int .i64 n] w fun e w' => e = .returned (.tuple #[u, .string s]) ∧ w' = w) :
    Calls Tryd.prog 30 #[.int .i64 2, .iface 90 (.int .i64 n)] w fun e w' => e = .returned (.tuple #[u, .string s]) ∧ w' = w := by
  have t1 := utInt n
  have t2 := unBoolInt n
  have HC := hid hc
  clear hc
  go_enter Tryd.func30, Tryd.ntmps30
  go_wp2_with fail
  refine HC.out.mono ?_
  rintro e w1 ⟨rfl, hw⟩
  have hw2 := hw.symm
  clear hw
  subst hw2
  go_wp2
  exact bodyPost_ret (v := .tuple #[u, .string s]) (by simp [results, Tryd.results30, go_sem]) rfl ⟨rfl, rfl⟩
end Go.Proofs.YtfbfmhmpoaplaaaDoor
