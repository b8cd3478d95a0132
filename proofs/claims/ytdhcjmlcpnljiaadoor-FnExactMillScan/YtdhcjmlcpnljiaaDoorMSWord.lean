import Derived.Test.YtdhcjmlcpnljiaaDoorMSLeaf
namespace Go.Proofs.YtdhcjmlcpnljiaaDoor
open Go.RowKit
set_option maxRecDepth 20000
set_option maxHeartbeats 400000 in
theorem l10BuiltWord_any (t : Nat) (h1 : 1 ≤ t) (h2 : t ≤ 12) (w : World) :
    Calls Tryd.prog 49 #[.int .i64 t] w fun e w' => (∃ n, e = .returned (.tuple #[.string (bwS (t - 1)), .int .i64 n])) ∧ w' = w := by
  obtain rfl | rfl | rfl | rfl | rfl | rfl | rfl | rfl | rfl | rfl | rfl | rfl : t = 1 ∨ t = 2 ∨ t = 3 ∨ t = 4 ∨ t = 5 ∨ t = 6 ∨ t = 7 ∨ t = 8 ∨ t = 9 ∨ t = 10 ∨ t = 11 ∨ t = 12 := by omega
  all_goals go_enter Tryd.func49, Tryd.ntmps49
  all_goals go_wp2
  all_goals go_ret2
  all_goals exact ⟨⟨_, rfl⟩, rfl⟩
set_option maxHeartbeats 400000 in
theorem l10Plain_any (w : World) :
    Calls Tryd.prog 50 #[] w fun e w' => e = .returned (.slice (some ⟨w.heap.size, 0, none⟩) 13 13) ∧ w' = w.alloc (.cells (pws.map fun x => Value.string ⟨x.toArray⟩).toArray 9) := by
  go_enter Tryd.func50, Tryd.ntmps50
  go_wp2
  go_ret
  exact ⟨rfl, rfl⟩
set_option maxHeartbeats 400000 in
theorem l10Marks_any (w : World) :
    Calls Tryd.prog 31 #[] w fun e w' => e = .returned (.slice (some ⟨w.heap.size, 0, none⟩) 28 28) ∧ w' = w.alloc (.cells (mmarks.map fun x => Value.string ⟨x.toArray⟩).toArray 9) := by
  go_enter Tryd.func31, Tryd.ntmps31
  go_wp2
  go_ret
  exact ⟨rfl, rfl⟩
theorem pwS_cell (w : World) (i : Nat) (h : i < 13) : (w.alloc (.cells (pws.map fun x => Value.string ⟨x.toArray⟩).toArray 9)).cell? ⟨w.heap.size, i, none⟩ = some (.string (pwS i)) := by
  rw [cell_new_row]
  have hl : i < pws.length := h
  simp [pwS, hl]
theorem mmS_cell (w : World) (i : Nat) (h : i < 28) : (w.alloc (.cells (mmarks.map fun x => Value.string ⟨x.toArray⟩).toArray 9)).cell? ⟨w.heap.size, i, none⟩ = some (.string (mmS i)) := by
  rw [cell_new_row]
  have hl : i < mmarks.length := h
  simp [mmS, hl]
theorem not_mem_get (xs : List (List UInt8)) (t : List UInt8) (h : ∀ i, i < xs.length → xs.getD i [] ≠ t) : ¬ t ∈ xs := fun hm => by
  obtain ⟨i, hi, e⟩ := (mem_get xs t).1 hm
  exact h i hi e
theorem mem_mws (x : List UInt8) : x ∈ mws ↔ x ∈ tws ∨ x ∈ pws ∨ x ∈ bws := by
  unfold mws; simp only [List.mem_append]
  constructor
  · rintro ((h | h) | h)
    · exact .inl h
    · exact .inr (.inl h)
    · exact .inr (.inr h)
  · rintro (h | h | h)
    · exact .inl (.inl h)
    · exact .inl (.inr h)
    · exact .inr h
set_option maxHeartbeats 1000000 in
theorem l10Taken_any (s : ByteArray) (w : World) :
    Calls Tryd.prog 28 #[.string s] w fun e w' => e = .returned (.bool (decide (s.data.toList ∈ mws))) ∧ Below w.heap.size w w' := by
  have HM := hid (mem_mws s.data.toList)
  by_cases h0 : mtype s.data.toList = 0
  · have HT0 : Hid (¬ s.data.toList ∈ tws) := fun h => (mtype_pos _).2 h h0
    have HZ := hid h0
    clear h0
    go_enter Tryd.func28, Tryd.ntmps28
    go_wp2_with (go_at_call 48; refine (l10Type_any s _).mono ?_; rintro e w' ⟨rfl, hw⟩; have hw2 := hw.symm; clear hw; subst hw2; rw [HZ.out])
    go_loop [3] (fun i => ∃ k : Nat, 1 ≤ k ∧ k ≤ 13 ∧ i = .int .i64 k ∧ ∀ j, j + 1 < k → bws.getD j [] ≠ s.data.toList) (fun i => 13 - (intOf i).toNat)
    case atStart => exact ⟨1, by omega, by omega, rfl, fun j h => by omega⟩
    case round =>
      obtain ⟨k, hk1, hk, rfl, hr⟩ := hrel
      have HR := hid hr
      clear hr
      by_cases hlt : k ≤ 12
      · have HQ := hid (str_eq (bws.getD (k - 1) []) s)
        by_cases he : bws.getD (k - 1) [] = s.data.toList
        · have hq : ((bwS (k - 1)).toList == s.toList) = true := by unfold bwS; rw [HQ.out]; simpa using he
          have HE : Hid (decide (s.data.toList ∈ mws) = true) := decide_eq_true (HM.out.2 (.inr (.inr ((mem_get _ _).2 ⟨k - 1, by (show k - 1 < 12); omega, he⟩))))
          clear HQ he HM
          go_wp2_with (go_at_call 49; refine (l10BuiltWord_any k hk1 hlt _).mono ?_; rintro e w' ⟨⟨nb, rfl⟩, hw⟩; have hw2 := hw.symm; clear hw; subst hw2)
          go_ret
          exact ⟨ret_bool (by rw [HE.out]), Below.refl _ _⟩
        · have hq : ((bwS (k - 1)).toList == s.toList) = false := by unfold bwS; rw [HQ.out]; simpa using he
          have HN := hid he
          clear HQ he
          go_wp2_with (go_at_call 49; refine (l10BuiltWord_any k hk1 hlt _).mono ?_; rintro e w' ⟨⟨nb, rfl⟩, hw⟩; have hw2 := hw.symm; clear hw; subst hw2)
          go_round
          case rel => exact ⟨k + 1, by omega, by omega, by go_num, fun j h => by
            rcases Nat.lt_or_eq_of_le (show j + 1 ≤ k by omega) with h | h
            · exact HR.out j h
            · have e : j = k - 1 := by omega
              subst e; exact HN.out⟩
          case measure => simp [intOf]; omega
      · have HB0 : Hid (¬ s.data.toList ∈ bws) := not_mem_get _ _ fun i hi => HR.out i (by have : bws.length = 12 := rfl; omega)
        clear HR
        go_wp2_with (go_at_call 50; refine (l10Plain_any _).mono ?_; rintro e w' ⟨rfl, rfl⟩)
        go_loop [7] (fun i => ∃ k : Nat, k ≤ 13 ∧ i = .int .i64 k ∧ ∀ j, j < k → pws.getD j [] ≠ s.data.toList) (fun i => 13 - (intOf i).toNat)
        case atStart => exact ⟨0, by omega, rfl, fun j h => by omega⟩
        case round =>
          obtain ⟨m, hm, rfl, hr⟩ := hrel
          have HR := hid hr
          clear hr
          by_cases hlt2 : m < 13
          · have hcell := pwS_cell w m hlt2
            have HQ := hid (str_eq (pws.getD m []) s)
            by_cases he : pws.getD m [] = s.data.toList
            · have hq : ((pwS m).toList == s.toList) = true := by unfold pwS; rw [HQ.out]; simpa using he
              have HE : Hid (decide (s.data.toList ∈ mws) = true) := decide_eq_true (HM.out.2 (.inr (.inl ((mem_get _ _).2 ⟨m, hlt2, he⟩))))
              clear HQ he HM
              go_wp2
              go_ret
              exact ⟨ret_bool (by rw [HE.out]), (Below.refl _ _).alloc (Nat.le_refl _) _⟩
            · have hq : ((pwS m).toList == s.toList) = false := by unfold pwS; rw [HQ.out]; simpa using he
              have HN := hid he
              clear HQ he
              go_wp2
              go_round
              case rel => exact ⟨m + 1, by omega, by go_num, fun j h => by
                rcases Nat.lt_or_eq_of_le (show j ≤ m by omega) with h | h
                · exact HR.out j h
                · subst h; exact HN.out⟩
              case measure => simp [intOf]; omega
          · have HE : Hid (decide (s.data.toList ∈ mws) = false) := decide_eq_false fun h => by
              rcases HM.out.1 h with h | h | h
              · exact HT0.out h
              · exact not_mem_get _ _ (fun i hi => HR.out i (by have : pws.length = 13 := rfl; omega)) h
              · exact HB0.out h
            clear HM HT0 HB0 HR
            go_wp2
            go_ret
            exact ⟨ret_bool (by rw [HE.out]), (Below.refl _ _).alloc (Nat.le_refl _) _⟩
  · have HE : Hid (decide (s.data.toList ∈ mws) = true) := decide_eq_true (HM.out.2 (.inl ((mtype_pos _).1 h0)))
    have h0' : ((mtype s.data.toList : Int) != 0) = true := by simp; omega
    clear h0 HM
    go_enter Tryd.func28, Tryd.ntmps28
    go_wp2_with (go_at_call 48; refine (l10Type_any s _).mono ?_; rintro e w' ⟨rfl, hw⟩; have hw2 := hw.symm; clear hw; subst hw2)
    go_ret
    exact ⟨ret_bool (by rw [HE.out]), Below.refl _ _⟩
end Go.Proofs.YtdhcjmlcpnljiaaDoor
