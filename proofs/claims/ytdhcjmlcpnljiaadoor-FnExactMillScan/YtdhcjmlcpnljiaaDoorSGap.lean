import Derived.Test.YtdhcjmlcpnljiaaDoorGap
namespace Go.Proofs.YtdhcjmlcpnljiaaDoor
open Go.RowKit
set_option maxRecDepth 20000
theorem get_eq (s : ByteArray) (k : Nat) (h : k < s.size) : s.data.toList[k]'(by rw [len_size]; exact h) = s[k] := rfl
set_option maxHeartbeats 1000000 in
theorem l1Gap_any (s : ByteArray) (a : Int) (w : World) (hs : s.size ≤ maxLen) (h0 : 0 ≤ a) (h1 : a ≤ s.size) :
    Calls Tryd.prog 21 #[.string s, .int .i64 a] w fun e w' => e = .returned (.int .i64 (a + gapN false (s.data.toList.drop a.toNat))) ∧ w' = w := by
  unfold maxLen at hs
  obtain ⟨n, rfl⟩ := Int.eq_ofNat_of_zero_le h0
  rw [Int.toNat_natCast]
  obtain ⟨T, hT⟩ : ∃ T : Nat, n + gapN false (s.data.toList.drop n) = T := ⟨_, rfl⟩
  have e : ((n : Int) + (gapN false (s.data.toList.drop n) : Nat)) = (T : Int) := by omega
  rw [e]; clear e
  have HT : Hid (n + gapN false (s.data.toList.drop n) = T) := hT
  clear hT
  have hn : n ≤ s.size := by omega
  clear h0 h1
  have hsz := len_size s
  have HSZ : Hid (s.data.toList.length = s.size) := hsz
  clear hsz
  go_enter Tryd.func21, Tryd.ntmps21
  go_wp2
  go_loop [1] (fun i => ∃ k : Nat, k ≤ s.size ∧ i = .int .i64 k ∧ k + gapN false (s.data.toList.drop k) = T) (fun i => s.size - (intOf i).toNat)
  case atStart => exact ⟨n, hn, rfl, HT.out⟩
  case round =>
    obtain ⟨k, hk, rfl, hr⟩ := hrel
    have HR : Hid (k + gapN false (s.data.toList.drop k) = T) := hr
    clear hr
    by_cases hlt : k < s.size
    · have hl : k < s.data.toList.length := by rw [HSZ.out]; exact hlt
      by_cases c1 : s[k].toNat = 35
      · have c1' : ((s[k].toNat : Int) == 35) = true := by rw [beq_iff_eq]; omega
        have HG : Hid (k + gapN true (s.data.toList.drop k) = T) := by
          show _ = _; rw [← gf_note _ k hl (by rw [get_eq s k hlt]; exact c1)]; exact HR.out
        have C1 : Hid (s[k].toNat = 35) := c1
        clear c1
        go_wp2
        go_loop [1] (fun i => ∃ m : Nat, k ≤ m ∧ m ≤ s.size ∧ i = .int .i64 m ∧ m + gapN true (s.data.toList.drop m) = T) (fun i => s.size - (intOf i).toNat)
        case atStart => exact ⟨k, Nat.le_refl _, hk, rfl, HG.out⟩
        case round =>
          obtain ⟨m, hkm, hm, rfl, hr2⟩ := hrel
          have HR2 : Hid (m + gapN true (s.data.toList.drop m) = T) := hr2
          clear hr2
          by_cases hml : m < s.size
          · have hl2 : m < s.data.toList.length := by rw [HSZ.out]; exact hml
            by_cases c2 : s[m].toNat = 10
            · have c2' : ((s[m].toNat : Int) != 10) = false := by simp; omega
              have hne : k < m := by
                rcases Nat.lt_or_eq_of_le hkm with h | h
                · exact h
                · subst h; have := C1.out; omega
              have HX : Hid (m + gapN false (s.data.toList.drop m) = T) := by
                show _ = _; rw [← gt_nl _ m hl2 (by rw [get_eq s m hml]; exact c2)]; exact HR2.out
              clear c2
              go_wp2
              go_round
              case rel => exact ⟨m, hm, rfl, HX.out⟩
              case measure => simp [intOf]; omega
            · have c2' : ((s[m].toNat : Int) != 10) = true := by simp; omega
              have HX : Hid (m + 1 + gapN true (s.data.toList.drop (m + 1)) = T) := by
                have := gt_step _ m hl2 (by rw [get_eq s m hml]; exact c2)
                have h2 := HR2.out
                show _ = _; omega
              clear c2
              go_wp2
              go_round
              case rel => exact ⟨m + 1, by omega, by omega, by go_num, HX.out⟩
              case measure => simp [intOf]; omega
          · have HX : Hid (m + gapN false (s.data.toList.drop m) = T) := by
              have := g_end true s.data.toList m (by rw [HSZ.out]; omega)
              have h3 := g_end false s.data.toList m (by rw [HSZ.out]; omega)
              have h2 := HR2.out
              show _ = _; omega
            go_wp2
            go_round
            case rel => exact ⟨m, hm, rfl, HX.out⟩
            case measure => simp [intOf]; omega
      · have c1' : ((s[k].toNat : Int) == 35) = false := by rw [beq_eq_false_iff_ne]; omega
        by_cases c3 : s[k].toNat = 32 ∨ s[k].toNat = 10
        · have HX : Hid (k + 1 + gapN false (s.data.toList.drop (k + 1)) = T) := by
            have := gf_blank _ k hl (by rw [get_eq s k hlt]; exact c3)
            have h2 := HR.out
            show _ = _; omega
          clear c1
          by_cases c4 : s[k].toNat = 32
          · have c4' : ((s[k].toNat : Int) == 32) = true := by rw [beq_iff_eq]; omega
            clear c3 c4
            go_wp2
            go_round
            case rel => exact ⟨k + 1, by omega, by go_num, HX.out⟩
            case measure => simp [intOf]; omega
          · have c4' : ((s[k].toNat : Int) == 32) = false := by rw [beq_eq_false_iff_ne]; omega
            have c5' : ((s[k].toNat : Int) == 10) = true := by rw [beq_iff_eq]; omega
            clear c3 c4
            go_wp2
            go_round
            case rel => exact ⟨k + 1, by omega, by go_num, HX.out⟩
            case measure => simp [intOf]; omega
        · have c4' : ((s[k].toNat : Int) == 32) = false := by rw [beq_eq_false_iff_ne]; omega
          have c5' : ((s[k].toNat : Int) == 10) = false := by rw [beq_eq_false_iff_ne]; omega
          have HX : Hid (k = T) := by
            have := gf_stop _ k hl (by rw [get_eq s k hlt]; exact c1) (by rw [get_eq s k hlt]; omega) (by rw [get_eq s k hlt]; omega)
            have h2 := HR.out
            show _ = _; omega
          clear c1 c3
          go_wp2
          go_ret
          exact ⟨ret_int (by rw [HX.out]), rfl⟩
    · have HX : Hid (k = T) := by
        have := g_end false s.data.toList k (by rw [HSZ.out]; omega)
        have h2 := HR.out
        show _ = _; omega
      go_wp2
      go_ret
      exact ⟨ret_int (by rw [HX.out]), rfl⟩
end Go.Proofs.YtdhcjmlcpnljiaaDoor
