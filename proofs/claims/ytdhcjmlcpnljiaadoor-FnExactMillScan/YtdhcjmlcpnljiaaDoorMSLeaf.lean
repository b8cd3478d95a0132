import Derived.Test.YtdhcjmlcpnljiaaDoorMPlain
import Derived.Test.YtdhcjmlcpnljiaaDoorPlain3
namespace Go.Proofs.YtdhcjmlcpnljiaaDoor
open Go.RowKit
set_option maxRecDepth 20000
set_option maxHeartbeats 400000 in
theorem l10Letter_any (c : Int) (w : World) :
    Calls Tryd.prog 25 #[.int .u8 c] w fun e w' => e = .returned (.bool (mlt c)) ∧ w' = w := by
  go_enter Tryd.func25, Tryd.ntmps25
  go_wp2
  all_goals go_ret
  all_goals exact ⟨ret_bool (by unfold mlt; rw [Bool.eq_iff_iff]; simp; try omega), rfl⟩
set_option maxHeartbeats 400000 in
theorem l10Digit_any (c : Int) (w : World) :
    Calls Tryd.prog 26 #[.int .u8 c] w fun e w' => e = .returned (.bool (dig c)) ∧ w' = w := by
  go_enter Tryd.func26, Tryd.ntmps26
  go_wp2
  all_goals go_ret
  all_goals exact ⟨ret_bool (by unfold dig; rw [Bool.eq_iff_iff]; simp; try omega), rfl⟩
theorem let_mlt (c : Int) : let_ c = (mlt c || dig c || c == 95) := by
  unfold let_ beg mlt; generalize dig c = d; cases d <;> rw [Bool.eq_iff_iff] <;> simp
set_option maxHeartbeats 400000 in
theorem l10Tail_any (c : Int) (w : World) :
    Calls Tryd.prog 27 #[.int .u8 c] w fun e w' => e = .returned (.bool (let_ c)) ∧ w' = w := by
  rw [let_mlt]
  cases hb : mlt c <;> cases hd : dig c
  all_goals go_enter Tryd.func27, Tryd.ntmps27
  all_goals go_wp2_with (first
    | (go_at_call 25; refine (l10Letter_any _ _).mono ?_; rintro e w' ⟨rfl, rfl⟩)
    | (go_at_call 26; refine (l10Digit_any _ _).mono ?_; rintro e w' ⟨rfl, rfl⟩))
  all_goals go_ret
  all_goals exact ⟨ret_bool (by simp), rfl⟩
set_option maxHeartbeats 400000 in
theorem l10Hex_any (c : Int) (w : World) (h0 : 0 ≤ c) (h1 : c ≤ 255) :
    Calls Tryd.prog 54 #[.int .u8 c] w fun e w' => e = .returned (.int .i64 (hexv c)) ∧ w' = w := by
  go_enter Tryd.func54, Tryd.ntmps54
  go_wp2
  all_goals go_ret
  all_goals exact ⟨ret_int (by unfold hexv; split <;> (try split) <;> omega), rfl⟩
def bare (c : Int) : Bool := decide (32 ≤ c) && decide (c ≤ 126) && c != 34 && c != 92
set_option maxHeartbeats 400000 in
theorem l10Bare_any (c : Int) (w : World) :
    Calls Tryd.prog 53 #[.int .u8 c] w fun e w' => e = .returned (.bool (bare c)) ∧ w' = w := by
  go_enter Tryd.func53, Tryd.ntmps53
  go_wp2
  all_goals go_ret
  all_goals exact ⟨ret_bool (by unfold bare; rw [Bool.eq_iff_iff]; simp; try omega), rfl⟩
def twS (i : Nat) : ByteArray := ⟨(tw i).toArray⟩
def bwS (i : Nat) : ByteArray := ⟨(bws.getD i []).toArray⟩
def pwS (i : Nat) : ByteArray := ⟨(pws.getD i []).toArray⟩
def mmS (i : Nat) : ByteArray := ⟨(mmarks.getD i []).toArray⟩
set_option maxHeartbeats 400000 in
theorem l10TypeWord_any (t : Nat) (h1 : 1 ≤ t) (h2 : t ≤ 10) (w : World) :
    Calls Tryd.prog 69 #[.int .i64 t] w fun e w' => e = .returned (.string (twS (t - 1))) ∧ w' = w := by
  obtain rfl | rfl | rfl | rfl | rfl | rfl | rfl | rfl | rfl | rfl : t = 1 ∨ t = 2 ∨ t = 3 ∨ t = 4 ∨ t = 5 ∨ t = 6 ∨ t = 7 ∨ t = 8 ∨ t = 9 ∨ t = 10 := by omega
  all_goals go_enter Tryd.func69, Tryd.ntmps69
  all_goals go_wp2
  all_goals go_ret
  all_goals exact ⟨rfl, rfl⟩
theorem str_eq (a : List UInt8) (s : ByteArray) : ((⟨a.toArray⟩ : ByteArray).toList == s.toList) = decide (a = s.data.toList) := by
  rw [Lib.toList_data, Lib.toList_data, Bool.eq_iff_iff]; simp
set_option maxHeartbeats 400000 in
theorem l10Type_any (s : ByteArray) (w : World) :
    Calls Tryd.prog 48 #[.string s] w fun e w' => e = .returned (.int .i64 (mtype s.data.toList)) ∧ w' = w := by
  go_enter Tryd.func48, Tryd.ntmps48
  go_wp2
  go_loop [3] (fun i => ∃ k : Nat, 1 ≤ k ∧ k ≤ 11 ∧ i = .int .i64 k ∧ ∀ j, j + 1 < k → tw j ≠ s.data.toList) (fun i => 11 - (intOf i).toNat)
  case atStart => exact ⟨1, by omega, by omega, rfl, fun j h => by omega⟩
  case round =>
    obtain ⟨k, hk1, hk, rfl, hr⟩ := hrel
    have HR := hid hr
    clear hr
    by_cases hlt : k ≤ 10
    · have HQ := hid (str_eq (tw (k - 1)) s)
      by_cases he : tw (k - 1) = s.data.toList
      · have hq : ((twS (k - 1)).toList == s.toList) = true := by unfold twS; rw [HQ.out]; simpa using he
        have HE : Hid (mtype s.data.toList = k) := by
          show _ = _; rw [← he, mtype_tw (k - 1) (by omega)]; omega
        clear HQ he
        go_wp2_with (go_at_call 69; refine (l10TypeWord_any k hk1 hlt _).mono ?_; rintro e w' ⟨rfl, hw⟩; have hw2 := hw.symm; clear hw; subst hw2)
        go_ret
        exact ⟨ret_int (by rw [HE.out]), rfl⟩
      · have hq : ((twS (k - 1)).toList == s.toList) = false := by unfold twS; rw [HQ.out]; simpa using he
        have HN := hid he
        clear HQ he
        go_wp2_with (go_at_call 69; refine (l10TypeWord_any k hk1 hlt _).mono ?_; rintro e w' ⟨rfl, hw⟩; have hw2 := hw.symm; clear hw; subst hw2)
        go_round
        case rel => exact ⟨k + 1, by omega, by omega, by go_num, fun j h => by
          rcases Nat.lt_or_eq_of_le (show j + 1 ≤ k by omega) with h | h
          · exact HR.out j h
          · have e : j = k - 1 := by omega
            subst e; exact HN.out⟩
        case measure => simp [intOf]; omega
    · have HE : Hid (mtype s.data.toList = 0) := mtype_none _ fun i hi => HR.out i (by omega)
      go_wp2
      go_ret
      exact ⟨ret_int (by rw [HE.out]; rfl), rfl⟩
set_option maxHeartbeats 400000 in
theorem l10Integer_any (t : Nat) (h2 : t ≤ 10) (w : World) :
    Calls Tryd.prog 51 #[.int .i64 t] w fun e w' => e = .returned (.bool (decide (3 ≤ t))) ∧ w' = w := by
  go_enter Tryd.func51, Tryd.ntmps51
  go_wp2
  all_goals go_ret
  all_goals exact ⟨ret_bool (by rw [Bool.eq_iff_iff]; simp; try omega), rfl⟩
set_option maxHeartbeats 400000 in
theorem l10Signed_any (t : Nat) (h2 : t ≤ 10) (w : World) :
    Calls Tryd.prog 71 #[.int .i64 t] w fun e w' => e = .returned (.bool (decide (7 ≤ t))) ∧ w' = w := by
  go_enter Tryd.func71, Tryd.ntmps71
  go_wp2
  all_goals go_ret
  all_goals exact ⟨ret_bool (by rw [Bool.eq_iff_iff]; simp; try omega), rfl⟩
def bitsOf : Nat → Nat
  | 3 => 8 | 7 => 8 | 4 => 16 | 8 => 16 | 5 => 32 | 9 => 32 | _ => 64
set_option maxHeartbeats 400000 in
theorem l10Bits_any (t : Nat) (h1 : 3 ≤ t) (h2 : t ≤ 10) (w : World) :
    Calls Tryd.prog 70 #[.int .i64 t] w fun e w' => e = .returned (.int .i64 (bitsOf t)) ∧ w' = w := by
  obtain rfl | rfl | rfl | rfl | rfl | rfl | rfl | rfl : t = 3 ∨ t = 4 ∨ t = 5 ∨ t = 6 ∨ t = 7 ∨ t = 8 ∨ t = 9 ∨ t = 10 := by omega
  all_goals go_enter Tryd.func70, Tryd.ntmps70
  all_goals go_wp2
  all_goals go_ret
  all_goals exact ⟨rfl, rfl⟩
theorem bits_max (t : Nat) (h1 : 3 ≤ t) (h2 : t ≤ 10) : 1 ≤ bitsOf t ∧ bitsOf t ≤ 64 ∧ 2 ^ (if 7 ≤ t then bitsOf t - 1 else bitsOf t) - 1 = mmax t := by
  obtain rfl | rfl | rfl | rfl | rfl | rfl | rfl | rfl : t = 3 ∨ t = 4 ∨ t = 5 ∨ t = 6 ∨ t = 7 ∨ t = 8 ∨ t = 9 ∨ t = 10 := by omega
  all_goals decide
set_option maxHeartbeats 400000 in
theorem max_loop (n t : Nat) (hm : 2 ^ n - 1 = mmax t) (k : Nat) (hk : k < n) : (((2 ^ k - 1 : Nat) : Int) * 2 + 1 = ((2 ^ (k + 1) - 1 : Nat) : Int)) ∧ ((2 ^ k - 1 : Nat) : Int) * 2 + 1 ≤ 18446744073709551615 := by
  have h1 : 2 ^ (k + 1) = 2 * 2 ^ k := by rw [Nat.pow_succ]; omega
  have h2 : 1 ≤ 2 ^ k := Nat.one_le_two_pow
  have h3 : 2 ^ (k + 1) ≤ 2 ^ n := Nat.pow_le_pow_right (by decide) (by omega)
  have h4 := (mmax_le t).1
  generalize 2 ^ k = y at *
  generalize 2 ^ (k + 1) = z at *
  generalize 2 ^ n = x at *
  omega
set_option maxHeartbeats 1000000 in
theorem l10Max_any (t : Nat) (h1 : 3 ≤ t) (h2 : t ≤ 10) (w : World) :
    Calls Tryd.prog 52 #[.int .i64 t] w fun e w' => e = .returned (.int .u64 (mmax t)) ∧ w' = w := by
  obtain ⟨b1, b2, b3⟩ := bits_max t h1 h2
  have HBT : Hid (∀ W, Calls Tryd.prog 70 #[.int .i64 t] W fun e w' => e = .returned (.int .i64 (bitsOf t)) ∧ w' = W) := fun W => l10Bits_any t h1 h2 W
  have HSG : Hid (∀ W, Calls Tryd.prog 71 #[.int .i64 t] W fun e w' => e = .returned (.bool (decide (7 ≤ t))) ∧ w' = W) := fun W => l10Signed_any t h2 W
  generalize bitsOf t = b at *
  by_cases h7 : 7 ≤ t
  · have HD : Hid (decide (7 ≤ t) = true) := decide_eq_true h7
    rw [if_pos h7] at b3
    have HL := hid (max_loop (b - 1) t b3)
    have HM := hid b3
    clear b3 h7 h1 h2
    go_enter Tryd.func52, Tryd.ntmps52
    go_wp2_with (first
      | (go_at_call 70; refine (HBT.out _).mono ?_; rintro e w' ⟨rfl, hw⟩; have hw2 := hw.symm; clear hw; subst hw2)
      | (go_at_call 71; refine (HSG.out _).mono ?_; rintro e w' ⟨rfl, hw⟩; have hw2 := hw.symm; clear hw; subst hw2; rw [HD.out]))
    go_loop [4, 5] (fun m i => ∃ k : Nat, k ≤ b - 1 ∧ i = .int .i64 k ∧ m = .int .u64 ((2 ^ k - 1 : Nat) : Int)) (fun _ i => b - (intOf i).toNat)
    case atStart => exact ⟨0, Nat.zero_le _, rfl, rfl⟩
    case round =>
      obtain ⟨k, hk, rfl, rfl⟩ := hrel
      by_cases hlt : k < b - 1
      · obtain ⟨q1, q2⟩ := HL.out k hlt
        have Q1 := hid q1
        have hlt' : (k : Int) < (b : Int) - 1 := by omega
        clear q1
        have hy : 0 ≤ ((2 ^ k - 1 : Nat) : Int) := Int.natCast_nonneg _
        generalize ((2 ^ k - 1 : Nat) : Int) = y at *
        go_wp2
        go_round
        case rel => exact ⟨k + 1, by omega, by go_num, by rw [← Q1.out]⟩
        case measure => simp [intOf]; omega
      · have hke : k = b - 1 := by omega
        have hlt' : ¬ (k : Int) < (b : Int) - 1 := by omega
        have HE : Hid (2 ^ k - 1 = mmax t) := by show _ = _; rw [hke]; exact HM.out
        clear hke
        go_wp2
        go_ret
        exact ⟨ret_int (by rw [HE.out]), rfl⟩
  · have HD : Hid (decide (7 ≤ t) = false) := decide_eq_false h7
    rw [if_neg h7] at b3
    have HL := hid (max_loop b t b3)
    have HM := hid b3
    clear b3 h7 h1 h2
    go_enter Tryd.func52, Tryd.ntmps52
    go_wp2_with (first
      | (go_at_call 70; refine (HBT.out _).mono ?_; rintro e w' ⟨rfl, hw⟩; have hw2 := hw.symm; clear hw; subst hw2)
      | (go_at_call 71; refine (HSG.out _).mono ?_; rintro e w' ⟨rfl, hw⟩; have hw2 := hw.symm; clear hw; subst hw2; rw [HD.out]))
    go_loop [4, 5] (fun m i => ∃ k : Nat, k ≤ b ∧ i = .int .i64 k ∧ m = .int .u64 ((2 ^ k - 1 : Nat) : Int)) (fun _ i => b - (intOf i).toNat)
    case atStart => exact ⟨0, Nat.zero_le _, rfl, rfl⟩
    case round =>
      obtain ⟨k, hk, rfl, rfl⟩ := hrel
      by_cases hlt : k < b
      · obtain ⟨q1, q2⟩ := HL.out k hlt
        have Q1 := hid q1
        have hlt' : (k : Int) < (b : Int) := by omega
        clear q1
        have hy : 0 ≤ ((2 ^ k - 1 : Nat) : Int) := Int.natCast_nonneg _
        generalize ((2 ^ k - 1 : Nat) : Int) = y at *
        go_wp2
        go_round
        case rel => exact ⟨k + 1, by omega, by go_num, by rw [← Q1.out]⟩
        case measure => simp [intOf]; omega
      · have hke : k = b := by omega
        have HE : Hid (2 ^ k - 1 = mmax t) := by show _ = _; rw [hke]; exact HM.out
        have hlt' : ¬ (k : Int) < (b : Int) := by omega
        clear hke
        go_wp2
        go_ret
        exact ⟨ret_int (by rw [HE.out]), rfl⟩
end Go.Proofs.YtdhcjmlcpnljiaaDoor
