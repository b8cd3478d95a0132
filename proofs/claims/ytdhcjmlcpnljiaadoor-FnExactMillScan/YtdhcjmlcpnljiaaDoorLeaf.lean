import Derived.Test.YtdhcjmlcpnljiaaDoorChecked
import Derived.Test.YtdhcjmlcpnljiaaDoorPlain
import Derived.WalkKit
import Derived.WalkSpells
import Derived.WalkLawsBesides
import Derived.Deep.QuietTactic
import Derived.BigQuiet
namespace Go.Proofs.YtdhcjmlcpnljiaaDoor
open Go.RowKit

theorem ret_bool {a b : Bool} (h : a = b) : Ending.returned (.bool a) = .returned (.bool b) := by rw [h]
theorem ret_int {k : IntKind} {a b : Int} (h : a = b) : Ending.returned (.int k a) = .returned (.int k b) := by rw [h]

set_option maxHeartbeats 400000 in
theorem isDigit_any (c : Int) (w : World) :
    Calls Tryd.prog 64 #[.int .u8 c] w fun e w' => e = .returned (.bool (dig c)) ∧ w' = w := by
  go_enter Tryd.func64, Tryd.ntmps64
  go_wp2
  all_goals go_ret
  all_goals exact ⟨ret_bool (by unfold dig; rw [Bool.eq_iff_iff]; simp; try omega), rfl⟩
set_option maxHeartbeats 400000 in
theorem l1Digit_any (c : Int) (w : World) :
    Calls Tryd.prog 36 #[.int .u8 c] w fun e w' => e = .returned (.bool (dig c)) ∧ w' = w := by
  go_enter Tryd.func36, Tryd.ntmps36
  go_wp2
  all_goals go_ret
  all_goals exact ⟨ret_bool (by unfold dig; rw [Bool.eq_iff_iff]; simp; try omega), rfl⟩
set_option maxHeartbeats 400000 in
theorem l1Begins_any (c : Int) (w : World) :
    Calls Tryd.prog 38 #[.int .u8 c] w fun e w' => e = .returned (.bool (beg c)) ∧ w' = w := by
  go_enter Tryd.func38, Tryd.ntmps38
  go_wp2
  all_goals go_ret
  all_goals exact ⟨ret_bool (by unfold beg; rw [Bool.eq_iff_iff]; simp; try omega), rfl⟩
set_option maxHeartbeats 400000 in
theorem l1Letter_any (c : Int) (w : World) :
    Calls Tryd.prog 39 #[.int .u8 c] w fun e w' => e = .returned (.bool (let_ c)) ∧ w' = w := by
  cases hb : beg c <;> cases hd : dig c
  all_goals go_enter Tryd.func39, Tryd.ntmps39
  all_goals go_wp2_with (first
    | (go_at_call 38; refine (l1Begins_any _ _).mono ?_; rintro e w' ⟨rfl, rfl⟩)
    | (go_at_call 36; refine (l1Digit_any _ _).mono ?_; rintro e w' ⟨rfl, rfl⟩))
  all_goals go_ret
  all_goals exact ⟨ret_bool (by simp [let_, hb, hd]), rfl⟩
set_option maxHeartbeats 400000 in
theorem isName_any (c : Int) (w : World) :
    Calls Tryd.prog 66 #[.int .u8 c] w fun e w' => e = .returned (.bool (let_ c)) ∧ w' = w := by
  go_enter Tryd.func66, Tryd.ntmps66
  go_wp2_with (first
    | (go_at_call 64; refine (isDigit_any _ _).mono ?_; rintro e w' ⟨rfl, rfl⟩))
  all_goals go_ret
  all_goals exact ⟨ret_bool (by unfold let_ beg; generalize dig c = d; cases d <;> rw [Bool.eq_iff_iff] <;> simp <;> try omega), rfl⟩
set_option maxHeartbeats 400000 in
theorem l1Hex_any (c : Int) (w : World) (h0 : 0 ≤ c) (h1 : c ≤ 255) :
    Calls Tryd.prog 62 #[.int .u8 c] w fun e w' => e = .returned (.int .i64 (hexv c)) ∧ w' = w := by
  go_enter Tryd.func62, Tryd.ntmps62
  go_wp2
  all_goals go_ret
  all_goals exact ⟨ret_int (by unfold hexv; split <;> (try split) <;> omega), rfl⟩
set_option maxHeartbeats 400000 in
theorem hexDigit_any (c : Int) (w : World) (h0 : 0 ≤ c) (h1 : c ≤ 255) :
    Calls Tryd.prog 95 #[.int .u8 c] w fun e w' => e = .returned (.int .i64 (hexv c)) ∧ w' = w := by
  cases hd : dig c
  all_goals unfold dig at hd
  all_goals simp at hd
  all_goals go_enter Tryd.func95, Tryd.ntmps95
  all_goals go_wp2
  all_goals go_ret
  all_goals exact ⟨ret_int (by unfold hexv; split <;> (try split) <;> omega), rfl⟩
set_option maxHeartbeats 400000 in
theorem nameSize_any (s : ByteArray) (w : World) (hs : s.size ≤ maxLen) :
    Calls Tryd.prog 81 #[.string s] w fun e w' => e = .returned (.int .i64 (run letB s.data.toList)) ∧ w' = w := by
  unfold maxLen at hs
  go_enter Tryd.func81, Tryd.ntmps81
  go_wp2
  go_loop [3] (fun i => ∃ k : Nat, k ≤ s.size ∧ i = .int .i64 k ∧ k ≤ run letB s.data.toList) (fun i => s.size - (intOf i).toNat)
  case atStart => exact ⟨0, Nat.zero_le _, rfl, Nat.zero_le _⟩
  case round =>
    obtain ⟨k, hk, rfl, hr⟩ := hrel
    by_cases hlt : k < s.size
    · have hl : k < s.data.toList.length := by simpa using hlt
      have hg : s.data.toList[k] = s[k] := rfl
      have HG : Hid (s.data.toList[k] = s[k]) := hg
      clear hg
      cases hp : let_ (s[k].toNat : Int)
      · have HE := run_stop letB _ k hr hl (by rw [HG.out]; exact hp)
        have HE' : Hid (run letB s.data.toList = k) := HE
        clear HE
        go_wp2_with (go_at_call 66; refine (isName_any _ _).mono ?_; rintro e w' ⟨rfl, rfl⟩)
        go_ret
        exact ⟨ret_int (by rw [HE'.out]), rfl⟩
      · have HE := run_step letB _ k hr hl (by rw [HG.out]; exact hp)
        go_wp2_with (go_at_call 66; refine (isName_any _ _).mono ?_; rintro e w' ⟨rfl, rfl⟩)
        go_round
        case rel => exact ⟨k + 1, by omega, by go_num, HE⟩
        case measure => simp [intOf]; omega
    · have HE : Hid (run letB s.data.toList = k) := by
        have := run_le letB s.data.toList
        have e : s.data.toList.length = s.size := by simp
        exact Nat.le_antisymm (by omega) hr
      go_wp2
      go_ret
      exact ⟨ret_int (by rw [HE.out]), rfl⟩
set_option maxHeartbeats 400000 in
theorem textByte_low (s : ByteArray) (w : World) (hp : 0 < s.size) (h : (s[0].toNat : Int) < 32) :
    Calls Tryd.prog 83 #[.string s] w fun e w' => e = .returned (.tuple #[.int .u8 0, .int .i64 0]) ∧ w' = w := by
  go_enter Tryd.func83, Tryd.ntmps83
  go_wp2
  go_ret2
  exact ⟨rfl, rfl⟩
set_option maxHeartbeats 400000 in
theorem textByte_high (s : ByteArray) (w : World) (hp : 0 < s.size) (h : 126 < (s[0].toNat : Int)) :
    Calls Tryd.prog 83 #[.string s] w fun e w' => e = .returned (.tuple #[.int .u8 0, .int .i64 0]) ∧ w' = w := by
  have h' : ¬ (s[0].toNat : Int) < 32 := by omega
  go_enter Tryd.func83, Tryd.ntmps83
  go_wp2
  go_ret2
  exact ⟨rfl, rfl⟩
set_option maxHeartbeats 400000 in
theorem textByte_plain (s : ByteArray) (w : World) (hp : 0 < s.size) (h : 32 ≤ (s[0].toNat : Int)) (h1 : (s[0].toNat : Int) ≤ 126) (h2 : ((s[0].toNat : Int) != 92) = true) :
    Calls Tryd.prog 83 #[.string s] w fun e w' => e = .returned (.tuple #[.int .u8 s[0].toNat, .int .i64 1]) ∧ w' = w := by
  go_enter Tryd.func83, Tryd.ntmps83
  go_wp2
  go_ret2
  exact ⟨rfl, rfl⟩
set_option maxHeartbeats 400000 in
theorem textByte_short (s : ByteArray) (w : World) (hs : s.size ≤ maxLen) (hp : 0 < s.size) (h : 32 ≤ (s[0].toNat : Int)) (h1 : (s[0].toNat : Int) ≤ 126) (h2 : ((s[0].toNat : Int) != 92) = false) (h3 : s.size < 3) :
    Calls Tryd.prog 83 #[.string s] w fun e w' => e = .returned (.tuple #[.int .u8 0, .int .i64 0]) ∧ w' = w := by
  unfold maxLen at hs
  go_enter Tryd.func83, Tryd.ntmps83
  go_wp2
  go_ret2
  exact ⟨rfl, rfl⟩
theorem byte_bd (c : UInt8) : 0 ≤ (c.toNat : Int) ∧ (c.toNat : Int) ≤ 255 := by have := c.toNat_lt; omega
set_option maxHeartbeats 400000 in
theorem textByte_hex (s : ByteArray) (w : World) (hs : s.size ≤ maxLen) (hp : 2 < s.size) (h : 32 ≤ (s[0].toNat : Int)) (h1 : (s[0].toNat : Int) ≤ 126) (h2 : ((s[0].toNat : Int) != 92) = false) :
    Calls Tryd.prog 83 #[.string s] w fun e w' => e = .returned (if hexv s[1].toNat < 0 ∨ hexv s[2].toNat < 0 then .tuple #[.int .u8 0, .int .i64 0] else .tuple #[.int .u8 (hexv s[1].toNat * 16 + hexv s[2].toNat), .int .i64 3]) ∧ ∃ n, w' = w.drewN n := by
  unfold maxLen at hs
  have hp1 : (1 : Int) < s.size := by omega
  have hp2 : (2 : Int) < s.size := by omega
  have b1 := byte_bd s[1]
  have b2 := byte_bd s[2]
  have x1 := hexv_le s[1].toNat
  have x2 := hexv_le s[2].toNat
  go_enter Tryd.func83, Tryd.ntmps83
  go_wp2_with fail
  go_quiet ((go_at_call 95; exact Calls.quiet_of_same (hexDigit_any _ _ (by omega) (by omega))))
  go_wp2
  all_goals go_ret2
  all_goals exact ⟨rfl, _, rfl⟩
end Go.Proofs.YtdhcjmlcpnljiaaDoor
