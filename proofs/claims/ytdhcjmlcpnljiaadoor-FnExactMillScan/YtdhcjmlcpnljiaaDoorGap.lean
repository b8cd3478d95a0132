import Derived.Test.YtdhcjmlcpnljiaaDoorLeaf
import Derived.Lib.Bytealg
import Derived.Lib.Strings
import Derived.BigCall
namespace Go.Proofs.YtdhcjmlcpnljiaaDoor
open Go.RowKit
set_option maxRecDepth 20000
theorem head_eq (s : ByteArray) (hp : 0 < s.size) : s.data.toList = s[0] :: s.data.toList.tail := by
  match s, hp with
  | ⟨⟨c :: r⟩⟩, _ => rfl
  | ⟨⟨[]⟩⟩, h => exact absurd h (by decide)
theorem len_size (s : ByteArray) : s.data.toList.length = s.size := by simp
theorem notEmpty (s : ByteArray) (hp : 0 < s.size) : s.toList.isEmpty = false := by
  rw [Lib.toList_data, head_eq s hp]; rfl
theorem indexByte_run (l : List UInt8) : Lib.indexByte l 10 = if run nn l < l.length then (run nn l : Int) else -1 := by
  induction l with
  | nil => rfl
  | cons b l ih =>
    unfold Lib.indexByte
    rw [run_cons, ih]
    by_cases h : b = 10
    · subst h; simp [nn]
    · have e : nn b = true := by simp [nn, h]
      have hb : (b == 10) = false := by simp [h]
      rw [hb, if_pos e]
      by_cases h2 : run nn l < l.length
      · have hne : (((run nn l : Nat) : Int) == -1) = false := by rw [beq_eq_false_iff_ne]; omega
        simp only [h2, if_true, hne, List.length_cons, Nat.add_lt_add_iff_right, Bool.false_eq_true, if_false]; omega
      · simp [h2]
set_option maxHeartbeats 400000 in
theorem sl_indexByte_any (s : ByteArray) (c : Int) (w : World) :
    Calls Tryd.prog 55 #[.string s, .int .u8 c] w fun e w' => e = .returned (.int .i64 (Lib.indexByte s.data.toList c.toNat.toUInt8)) ∧ w' = w := by
  go_enter Tryd.func55, Tryd.ntmps55
  go_wp2
  rw [run_callFunc_extern Tryd.func72 (by kernel_rfl) (by kernel_rfl) (by kernel_rfl) (e := Extern.BytealgIndexByte.indexByte) (by kernel_rfl), Lib.run_indexByteString]
  simp only [Result.andThen]
  rw [Oper.upon_value]
  go_wp2
  go_ret
  exact ⟨rfl, rfl⟩
set_option maxHeartbeats 400000 in
theorem indexByte_any (s : ByteArray) (c : Int) (w : World) :
    Calls Tryd.prog 34 #[.string s, .int .u8 c] w fun e w' => e = .returned (.int .i64 (Lib.indexByte s.data.toList c.toNat.toUInt8)) ∧ w' = w := by
  go_enter Tryd.func34, Tryd.ntmps34
  go_wp2_with (go_at_call 55; refine (sl_indexByte_any _ _ _).mono ?_; rintro e w' ⟨rfl, rfl⟩)
  go_ret
  exact ⟨rfl, rfl⟩
theorem indexByte10 (s : ByteArray) (w : World) :
    Calls Tryd.prog 34 #[.string s, .int .u8 10] w fun e w' => e = .returned (.int .i64 (if run nn s.data.toList < s.size then (run nn s.data.toList : Int) else -1)) ∧ w' = w := by
  refine (indexByte_any s 10 w).mono ?_
  rintro e w' ⟨rfl, rfl⟩
  refine ⟨ret_int ?_, rfl⟩
  have := indexByte_run s.data.toList
  simpa using this
set_option maxHeartbeats 400000 in
theorem gap_any (s : ByteArray) (w : World) (hs : s.size ≤ maxLen) :
    Calls Tryd.prog 46 #[.string s] w fun e w' => e = .returned (.int .i64 (gap1 s.data.toList)) ∧ w' = w := by
  unfold maxLen at hs
  by_cases hp : 0 < s.size
  · have hne := notEmpty s hp
    have HH : Hid (s.data.toList = s[0] :: s.data.toList.tail) := head_eq s hp
    by_cases h1 : s[0].toNat = 32
    · have HE : Hid (gap1 s.data.toList = 1) := by
        show _ = _; rw [HH.out]; simp [gap1, h1]
      have h1' : ((s[0].toNat : Int) == 32) = true := by rw [beq_iff_eq]; omega
      clear h1
      go_enter Tryd.func46, Tryd.ntmps46
      go_wp2
      go_ret
      exact ⟨ret_int (by rw [HE.out]; rfl), rfl⟩
    · have h1' : ((s[0].toNat : Int) == 32) = false := by rw [beq_eq_false_iff_ne]; omega
      by_cases h2 : s[0].toNat = 10
      · have HE : Hid (gap1 s.data.toList = 1) := by
          show _ = _; rw [HH.out]; simp [gap1, h2]
        have h2' : ((s[0].toNat : Int) == 10) = true := by rw [beq_iff_eq]; omega
        clear h1 h2
        go_enter Tryd.func46, Tryd.ntmps46
        go_wp2
        go_ret
        exact ⟨ret_int (by rw [HE.out]; rfl), rfl⟩
      · have h2' : ((s[0].toNat : Int) == 10) = false := by rw [beq_eq_false_iff_ne]; omega
        by_cases h3 : s[0].toNat = 35
        · have h3' : ((s[0].toNat : Int) == 35) = true := by rw [beq_iff_eq]; omega
          have HE : Hid (gap1 s.data.toList = run nn s.data.toList) := by
            show _ = _; rw [HH.out]; simp [gap1, h3]
          have hrl := run_le nn s.data.toList
          have hsz : s.data.toList.length = s.size := by simp
          clear h1 h2 h3
          by_cases h4 : run nn s.data.toList < s.size
          · have HI : Hid ((if run nn s.data.toList < s.size then (run nn s.data.toList : Int) else -1) = (run nn s.data.toList : Int)) := if_pos h4
            clear hsz
            go_enter Tryd.func46, Tryd.ntmps46
            go_wp2_with (go_at_call 34; refine (indexByte10 _ _).mono ?_; rintro e w' ⟨rfl, rfl⟩; rw [HI.out])
            go_ret
            exact ⟨ret_int (by rw [HE.out]), rfl⟩
          · have HI : Hid ((if run nn s.data.toList < s.size then (run nn s.data.toList : Int) else -1) = (-1 : Int)) := if_neg h4
            have HE2 : Hid (gap1 s.data.toList = s.size) := by show _ = _; rw [HE.out]; omega
            clear hsz h4 hrl
            go_enter Tryd.func46, Tryd.ntmps46
            go_wp2_with (go_at_call 34; refine (indexByte10 _ _).mono ?_; rintro e w' ⟨rfl, rfl⟩; rw [HI.out])
            go_ret
            exact ⟨ret_int (by rw [HE2.out]), rfl⟩
        · have h3' : ((s[0].toNat : Int) == 35) = false := by rw [beq_eq_false_iff_ne]; omega
          have HE : Hid (gap1 s.data.toList = 0) := by
            show _ = _; rw [HH.out]; simp [gap1, h1, h2, h3]
          clear h1 h2 h3
          go_enter Tryd.func46, Tryd.ntmps46
          go_wp2
          go_ret
          exact ⟨ret_int (by rw [HE.out]; rfl), rfl⟩
  · have hd : s.data.toList = [] := by
      apply List.eq_nil_of_length_eq_zero; rw [len_size]; omega
    have HE : Hid (gap1 s.data.toList = 0) := by show _ = _; rw [hd]; rfl
    have hne : s.toList.isEmpty = true := by rw [Lib.toList_data, hd]; rfl
    clear hd
    go_enter Tryd.func46, Tryd.ntmps46
    go_wp2
    go_ret
    exact ⟨ret_int (by rw [HE.out]; rfl), rfl⟩
end Go.Proofs.YtdhcjmlcpnljiaaDoor
