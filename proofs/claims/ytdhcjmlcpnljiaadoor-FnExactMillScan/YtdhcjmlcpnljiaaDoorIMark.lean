import Derived.Test.YtdhcjmlcpnljiaaDoorINum
namespace Go.Proofs.YtdhcjmlcpnljiaaDoor
open Go.RowKit
set_option maxHeartbeats 400000 in
theorem sl_hasPrefix_any (s p : ByteArray) (w : World) :
    Calls Tryd.prog 93 #[.string s, .string p] w fun e w' => e = .returned (.bool (p.data.toList.isPrefixOf s.data.toList)) ∧ w' = w := by
  have e0 : p.data.toList.isPrefixOf s.data.toList = Lib.hasPrefix s.data.toList p.data.toList := rfl
  rw [e0, ← Lib.hasPrefix_of_take, ← Lib.size_eq, ← Lib.size_eq]
  go_enter Tryd.func93, Tryd.ntmps93
  go_wp2
  · rename_i h
    go_ret
    refine ⟨?_, rfl⟩
    show Ending.returned (Value.bool ((s.extract 0 p.size).toList == p.toList)) = _
    rw [Lib.extract_toList, Lib.toList_data]
    simp [h]
  · rename_i h
    go_ret
    refine ⟨?_, rfl⟩
    show Ending.returned (Value.bool false) = _
    simp [h]
set_option maxHeartbeats 400000 in
theorem hasPrefix_any (s p : ByteArray) (w : World) :
    Calls Tryd.prog 80 #[.string s, .string p] w fun e w' => e = .returned (.bool (p.data.toList.isPrefixOf s.data.toList)) ∧ w' = w := by
  go_enter Tryd.func80, Tryd.ntmps80
  go_wp2_with (go_at_call 93; refine (sl_hasPrefix_any _ _ _).mono ?_; rintro e w' ⟨rfl, hw⟩; rw [hw])
  go_ret
  exact ⟨ret_bool (by simp), rfl⟩
theorem markArr_get (k : Nat) (h : k < 23) : markArr[k]? = some (.string (markS k)) := by
  have hl : k < marks.length := h
  simp [markArr, markS, hl]
theorem index_marks (k : Nat) (h : k < 23) (W : World) : (Instr.index 95 (.agg markArr) (.int .i64 k)).run Tryd.prog W = .ok (.string (markS k)) W := by
  have hg := markArr_get k h
  have hz := Tryd.sizeOf9 W
  simp [Instr.index, asIntOf, run_underlying Tryd.underlying95, h, hz, part, hg]
set_option maxRecDepth 20000 in
set_option maxHeartbeats 1000000 in
theorem readMark_any (s : ByteArray) (w : World) (hE : Env w) :
    Calls Tryd.prog 68 #[.string s] w fun e w' => e = .returned (oneV (markOne s.data.toList) 0) ∧ Below w.heap.size w w' := by
  obtain ⟨t, fr, hg⟩ := (hE.below ((Below.refl _ _).alloc (Nat.le_refl _) (.cells #[.int .i64 0, .string ⟨#[]⟩, .int .i64 0, .int .i64 0] 49))).mark
  have HG := hid hg
  clear hE hg
  go_enter Tryd.func68, Tryd.ntmps68
  go_wp2_with (refine wpList_load_row rfl 95 (.global 1) rfl 1 rfl t markArr fr (.array 23 9) HG.out Tryd.underlying95 rfl (by kernel_rfl) ?_)
  go_loop [6, 8] (fun _ i => ∃ k : Nat, k ≤ 23 ∧ i = .int .i64 k ∧ ∀ j, j < k → (marks.getD j []).isPrefixOf s.data.toList = false) (fun _ i => 23 - (intOf i).toNat)
  case atStart => exact ⟨0, Nat.zero_le _, rfl, fun j h => absurd h (Nat.not_lt_zero _)⟩
  case round =>
    obtain ⟨k, hk, rfl, hno⟩ := hrel
    have HNO := hid hno
    clear hno
    by_cases hlt : k < 23
    · have hidx := index_marks k hlt
      have em : (markS k).data.toList = marks.getD k [] := by simp [markS]
      by_cases hp : (marks.getD k []).isPrefixOf s.data.toList = true
      · have HP : Hid ((markS k).data.toList.isPrefixOf s.data.toList = true) := by show _ = _; rw [em]; exact hp
        have HE := hid (oneV_good (mark_first _ k hlt hp HNO.out) 0)
        clear hp em
        go_wp2_with (go_at_call 80; refine (hasPrefix_any _ _ _).mono ?_; rintro e w' ⟨rfl, hw⟩; rw [hw, HP.out])
        refine bodyPost_ret (v := .tuple #[.agg #[.int .i64 5, .string (markS k), .int .i64 0, .int .i64 0], .int .i64 (markS k).size, .int .i64 0]) (by simp [results, Tryd.results68, go_sem]) rfl ⟨by rw [HE.out, ← markS_size]; simp; rfl, ?_⟩
        exact (Below.refl w.heap.size w).alloc (Nat.le_refl _) _
      · have hp' : (marks.getD k []).isPrefixOf s.data.toList = false := Bool.eq_false_iff.2 hp
        have HP : Hid ((markS k).data.toList.isPrefixOf s.data.toList = false) := by show _ = _; rw [em]; exact hp'
        have HN2 : Hid (∀ j, j < k + 1 → (marks.getD j []).isPrefixOf s.data.toList = false) := fun j hj => by
          rcases Nat.lt_or_eq_of_le (Nat.lt_succ_iff.1 hj) with h | h
          · exact HNO.out j h
          · subst h; exact hp'
        clear hp hp' em
        go_wp2_with (go_at_call 80; refine (hasPrefix_any _ _ _).mono ?_; rintro e w' ⟨rfl, hw⟩; rw [hw, HP.out])
        go_round
        case rel => exact ⟨k + 1, by omega, by go_num, HN2.out⟩
        case measure => simp [intOf]; omega
    · have HE := hid (oneV_bad (mark_none _ (fun j hj => HNO.out j (by omega))) (by decide) 0)
      go_wp2
      refine bodyPost_ret (v := .tuple #[.agg #[.int .i64 0, .string ⟨#[]⟩, .int .i64 0, .int .i64 0], .int .i64 0, .int .i64 2]) (by simp [results, Tryd.results68, go_sem]) rfl ⟨by rw [HE.out]; rfl, ?_⟩
      exact (Below.refl w.heap.size w).alloc (Nat.le_refl _) _
end Go.Proofs.YtdhcjmlcpnljiaaDoor
