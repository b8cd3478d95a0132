import Derived.Test.YtkngjbpbjjoneaaGreatDoorJ01
/-! What the model has of names and types: a cut of the scanners' texts. -/
namespace Go.Proofs.YtkngjbpbjjoneaaGreatDoor.Q
open Go.RowKit Go.Shelf
set_option maxRecDepth 20000
set_option maxHeartbeats 400000 in
theorem l10Letter_any (c : Int) (w : World) :
    Calls Tryz.prog 60 #[.int .u8 c] w fun e w' => e = .returned (.bool (mlt c)) ∧ w' = w := by
  go_enter Tryz.func60, Tryz.ntmps60
  go_wp2
  all_goals go_ret
  all_goals exact ⟨ret_bool (by unfold mlt; rw [Bool.eq_iff_iff]; simp; try omega), rfl⟩
set_option maxHeartbeats 400000 in
theorem l10Digit_any (c : Int) (w : World) :
    Calls Tryz.prog 83 #[.int .u8 c] w fun e w' => e = .returned (.bool (dig c)) ∧ w' = w := by
  go_enter Tryz.func83, Tryz.ntmps83
  go_wp2
  all_goals go_ret
  all_goals exact ⟨ret_bool (by unfold dig; rw [Bool.eq_iff_iff]; simp; try omega), rfl⟩
set_option maxHeartbeats 400000 in
theorem l10Tail_any (c : Int) (w : World) :
    Calls Tryz.prog 62 #[.int .u8 c] w fun e w' => e = .returned (.bool (let_ c)) ∧ w' = w := by
  rw [let_mlt]
  cases hb : mlt c <;> cases hd : dig c
  all_goals go_enter Tryz.func62, Tryz.ntmps62
  all_goals go_wp2_with (first
    | (go_at_call 60; refine (l10Letter_any _ _).mono ?_; rintro e w' ⟨rfl, rfl⟩)
    | (go_at_call 83; refine (l10Digit_any _ _).mono ?_; rintro e w' ⟨rfl, rfl⟩))
  all_goals go_ret
  all_goals exact ⟨ret_bool (by simp), rfl⟩
def twS (i : Nat) : ByteArray := ⟨(tw i).toArray⟩
def bwS (i : Nat) : ByteArray := ⟨(bws.getD i []).toArray⟩
def pwS (i : Nat) : ByteArray := ⟨(pws.getD i []).toArray⟩
set_option maxHeartbeats 400000 in
theorem l10TypeWord_any (t : Nat) (h1 : 1 ≤ t) (h2 : t ≤ 10) (w : World) :
    Calls Tryz.prog 23 #[.int .i64 t] w fun e w' => e = .returned (.string (twS (t - 1))) ∧ w' = w := by
  obtain rfl | rfl | rfl | rfl | rfl | rfl | rfl | rfl | rfl | rfl : t = 1 ∨ t = 2 ∨ t = 3 ∨ t = 4 ∨ t = 5 ∨ t = 6 ∨ t = 7 ∨ t = 8 ∨ t = 9 ∨ t = 10 := by omega
  all_goals go_enter Tryz.func23, Tryz.ntmps23
  all_goals go_wp2
  all_goals go_ret
  all_goals exact ⟨rfl, rfl⟩
set_option maxHeartbeats 400000 in
theorem l10Type_any (s : ByteArray) (w : World) :
    Calls Tryz.prog 81 #[.string s] w fun e w' => e = .returned (.int .i64 (mtype s.data.toList)) ∧ w' = w := by
  go_enter Tryz.func81, Tryz.ntmps81
  go_wp2
  go_loop [3] (fun i => ∃ k : Nat, 1 ≤ k ∧ k ≤ 11 ∧ i = .int .i64 k ∧ ∀ j, j + 1 < k → tw j ≠ s.data.toList) (fun i => 11 - (intOf i).toNat)
  case atStart => exact ⟨1, by omega, by omega, rfl, fun j h => by omega⟩
  case round =>
    obtain ⟨k, hk1, hk, rfl, hr⟩ := hrel
    have HR := hid hr
    clear hr
    by_cases hlt : k ≤ 10
    · have HQ := hid (str_eq (tw (k - 1)) s)
      by_cases he : tw (k - 1) = s.data.toList
      · have hq : ((twS (k - 1)).toList == s.toList) = true := by unfold twS; rw [HQ.out]; simpa using he
        have HE : Hid (mtype s.data.toList = k) := by
          show _ = _; rw [← he, mtype_tw (k - 1) (by omega)]; omega
        clear HQ he
        go_wp2_with (go_at_call 23; refine (l10TypeWord_any k hk1 hlt _).mono ?_; rintro e w' ⟨rfl, hw⟩; have hw2 := hw.symm; clear hw; subst hw2)
        go_ret
        exact ⟨ret_int (by rw [HE.out]), rfl⟩
      · have hq : ((twS (k - 1)).toList == s.toList) = false := by unfold twS; rw [HQ.out]; simpa using he
        have HN := hid he
        clear HQ he
        go_wp2_with (go_at_call 23; refine (l10TypeWord_any k hk1 hlt _).mono ?_; rintro e w' ⟨rfl, hw⟩; have hw2 := hw.symm; clear hw; subst hw2)
        go_round
        case rel => exact ⟨k + 1, by omega, by omega, by go_num, fun j h => by
          rcases Nat.lt_or_eq_of_le (show j + 1 ≤ k by omega) with h | h
          · exact HR.out j h
          · have e : j = k - 1 := by omega
            subst e; exact HN.out⟩
        case measure => simp [intOf]; omega
    · have HE : Hid (mtype s.data.toList = 0) := mtype_none _ fun i hi => HR.out i (by omega)
      go_wp2
      go_ret
      exact ⟨ret_int (by rw [HE.out]; rfl), rfl⟩
set_option maxHeartbeats 400000 in
theorem l10Signed_any (t : Nat) (h2 : t ≤ 10) (w : World) :
    Calls Tryz.prog 64 #[.int .i64 t] w fun e w' => e = .returned (.bool (decide (7 ≤ t))) ∧ w' = w := by
  go_enter Tryz.func64, Tryz.ntmps64
  go_wp2
  all_goals go_ret
  all_goals exact ⟨ret_bool (by rw [Bool.eq_iff_iff]; simp; try omega), rfl⟩
def bitsOf : Nat → Nat
  | 3 => 8 | 7 => 8 | 4 => 16 | 8 => 16 | 5 => 32 | 9 => 32 | _ => 64
set_option maxHeartbeats 400000 in
theorem l10Bits_any (t : Nat) (h1 : 3 ≤ t) (h2 : t ≤ 10) (w : World) :
    Calls Tryz.prog 63 #[.int .i64 t] w fun e w' => e = .returned (.int .i64 (bitsOf t)) ∧ w' = w := by
  obtain rfl | rfl | rfl | rfl | rfl | rfl | rfl | rfl : t = 3 ∨ t = 4 ∨ t = 5 ∨ t = 6 ∨ t = 7 ∨ t = 8 ∨ t = 9 ∨ t = 10 := by omega
  all_goals go_enter Tryz.func63, Tryz.ntmps63
  all_goals go_wp2
  all_goals go_ret
  all_goals exact ⟨rfl, rfl⟩
theorem bits_max (t : Nat) (h1 : 3 ≤ t) (h2 : t ≤ 10) : 1 ≤ bitsOf t ∧ bitsOf t ≤ 64 ∧ 2 ^ (if 7 ≤ t then bitsOf t - 1 else bitsOf t) - 1 = mmax t := by
  obtain rfl | rfl | rfl | rfl | rfl | rfl | rfl | rfl : t = 3 ∨ t = 4 ∨ t = 5 ∨ t = 6 ∨ t = 7 ∨ t = 8 ∨ t = 9 ∨ t = 10 := by omega
  all_goals decide
set_option maxHeartbeats 400000 in
theorem max_loop (n t : Nat) (hm : 2 ^ n - 1 = mmax t) (k : Nat) (hk : k < n) : (((2 ^ k - 1 : Nat) : Int) * 2 + 1 = ((2 ^ (k + 1) - 1 : Nat) : Int)) ∧ ((2 ^ k - 1 : Nat) : Int) * 2 + 1 ≤ 18446744073709551615 := by
  have h1 : 2 ^ (k + 1) = 2 * 2 ^ k := by rw [Nat.pow_succ]; omega
  have h2 : 1 ≤ 2 ^ k := Nat.one_le_two_pow
  have h3 : 2 ^ (k + 1) ≤ 2 ^ n := Nat.pow_le_pow_right (by decide) (by omega)
  have h4 := (mmax_le t).1
  generalize 2 ^ k = y at *
  generalize 2 ^ (k + 1) = z at *
  generalize 2 ^ n = x at *
  omega
set_option maxHeartbeats 1000000 in
theorem l10Max_any (t : Nat) (h1 : 3 ≤ t) (h2 : t ≤ 10) (w : World) :
    Calls Tryz.prog 41 #[.int .i64 t] w fun e w' => e = .returned (.int .u64 (mmax t)) ∧ w' = w := by
  obtain ⟨b1, b2, b3⟩ := bits_max t h1 h2
  have HBT : Hid (∀ W, Calls Tryz.prog 63 #[.int .i64 t] W fun e w' => e = .returned (.int .i64 (bitsOf t)) ∧ w' = W) := fun W => l10Bits_any t h1 h2 W
  have HSG : Hid (∀ W, Calls Tryz.prog 64 #[.int .i64 t] W fun e w' => e = .returned (.bool (decide (7 ≤ t))) ∧ w' = W) := fun W => l10Signed_any t h2 W
  generalize bitsOf t = b at *
  by_cases h7 : 7 ≤ t
  · have HD : Hid (decide (7 ≤ t) = true) := decide_eq_true h7
    rw [if_pos h7] at b3
    have HL := hid (max_loop (b - 1) t b3)
    have HM := hid b3
    clear b3 h7 h1 h2
    go_enter Tryz.func41, Tryz.ntmps41
    go_wp2_with (first
      | (go_at_call 63; refine (HBT.out _).mono ?_; rintro e w' ⟨rfl, hw⟩; have hw2 := hw.symm; clear hw; subst hw2)
      | (go_at_call 64; refine (HSG.out _).mono ?_; rintro e w' ⟨rfl, hw⟩; have hw2 := hw.symm; clear hw; subst hw2; rw [HD.out]))
    go_loop [4, 5] (fun m i => ∃ k : Nat, k ≤ b - 1 ∧ i = .int .i64 k ∧ m = .int .u64 ((2 ^ k - 1 : Nat) : Int)) (fun _ i => b - (intOf i).toNat)
    case atStart => exact ⟨0, Nat.zero_le _, rfl, rfl⟩
    case round =>
      obtain ⟨k, hk, rfl, rfl⟩ := hrel
      by_cases hlt : k < b - 1
      · obtain ⟨q1, q2⟩ := HL.out k hlt
        have Q1 := hid q1
        have hlt' : (k : Int) < (b : Int) - 1 := by omega
        clear q1
        have hy : 0 ≤ ((2 ^ k - 1 : Nat) : Int) := Int.natCast_nonneg _
        generalize ((2 ^ k - 1 : Nat) : Int) = y at *
        go_wp2
        go_round
        case rel => exact ⟨k + 1, by omega, by go_num, by rw [← Q1.out]⟩
        case measure => simp [intOf]; omega
      · have hke : k = b - 1 := by omega
        have hlt' : ¬ (k : Int) < (b : Int) - 1 := by omega
        have HE : Hid (2 ^ k - 1 = mmax t) := by show _ = _; rw [hke]; exact HM.out
        clear hke
        go_wp2
        go_ret
        exact ⟨ret_int (by rw [HE.out]), rfl⟩
  · have HD : Hid (decide (7 ≤ t) = false) := decide_eq_false h7
    rw [if_neg h7] at b3
    have HL := hid (max_loop b t b3)
    have HM := hid b3
    clear b3 h7 h1 h2
    go_enter Tryz.func41, Tryz.ntmps41
    go_wp2_with (first
      | (go_at_call 63; refine (HBT.out _).mono ?_; rintro e w' ⟨rfl, hw⟩; have hw2 := hw.symm; clear hw; subst hw2)
      | (go_at_call 64; refine (HSG.out _).mono ?_; rintro e w' ⟨rfl, hw⟩; have hw2 := hw.symm; clear hw; subst hw2; rw [HD.out]))
    go_loop [4, 5] (fun m i => ∃ k : Nat, k ≤ b ∧ i = .int .i64 k ∧ m = .int .u64 ((2 ^ k - 1 : Nat) : Int)) (fun _ i => b - (intOf i).toNat)
    case atStart => exact ⟨0, Nat.zero_le _, rfl, rfl⟩
    case round =>
      obtain ⟨k, hk, rfl, rfl⟩ := hrel
      by_cases hlt : k < b
      · obtain ⟨q1, q2⟩ := HL.out k hlt
        have Q1 := hid q1
        have hlt' : (k : Int) < (b : Int) := by omega
        clear q1
        have hy : 0 ≤ ((2 ^ k - 1 : Nat) : Int) := Int.natCast_nonneg _
        generalize ((2 ^ k - 1 : Nat) : Int) = y at *
        go_wp2
        go_round
        case rel => exact ⟨k + 1, by omega, by go_num, by rw [← Q1.out]⟩
        case measure => simp [intOf]; omega
      · have hke : k = b := by omega
        have HE : Hid (2 ^ k - 1 = mmax t) := by show _ = _; rw [hke]; exact HM.out
        have hlt' : ¬ (k : Int) < (b : Int) := by omega
        clear hke
        go_wp2
        go_ret
        exact ⟨ret_int (by rw [HE.out]), rfl⟩
set_option maxHeartbeats 400000 in
theorem l10BuiltWord_any (t : Nat) (h1 : 1 ≤ t) (h2 : t ≤ 12) (w : World) :
    Calls Tryz.prog 44 #[.int .i64 t] w fun e w' => (∃ n, e = .returned (.tuple #[.string (bwS (t - 1)), .int .i64 n])) ∧ w' = w := by
  obtain rfl | rfl | rfl | rfl | rfl | rfl | rfl | rfl | rfl | rfl | rfl | rfl : t = 1 ∨ t = 2 ∨ t = 3 ∨ t = 4 ∨ t = 5 ∨ t = 6 ∨ t = 7 ∨ t = 8 ∨ t = 9 ∨ t = 10 ∨ t = 11 ∨ t = 12 := by omega
  all_goals go_enter Tryz.func44, Tryz.ntmps44
  all_goals go_wp2
  all_goals go_ret2
  all_goals exact ⟨⟨_, rfl⟩, rfl⟩
set_option maxHeartbeats 400000 in
theorem l10Plain_any (w : World) :
    Calls Tryz.prog 82 #[] w fun e w' => e = .returned (.slice (some ⟨w.heap.size, 0, none⟩) 13 13) ∧ w' = w.alloc (.cells (pws.map fun x => Value.string ⟨x.toArray⟩).toArray 9) := by
  go_enter Tryz.func82, Tryz.ntmps82
  go_wp2
  go_ret
  exact ⟨rfl, rfl⟩
theorem pwS_cell (w : World) (i : Nat) (h : i < 13) : (w.alloc (.cells (pws.map fun x => Value.string ⟨x.toArray⟩).toArray 9)).cell? ⟨w.heap.size, i, none⟩ = some (.string (pwS i)) := by
  rw [cell_new_row]
  have hl : i < pws.length := h
  simp [pwS, hl]
set_option maxHeartbeats 1000000 in
theorem l10Taken_any (s : ByteArray) (w : World) :
    Calls Tryz.prog 61 #[.string s] w fun e w' => e = .returned (.bool (decide (s.data.toList ∈ mws))) ∧ Below w.heap.size w w' := by
  have HM := hid (mem_mws s.data.toList)
  by_cases h0 : mtype s.data.toList = 0
  · have HT0 : Hid (¬ s.data.toList ∈ tws) := fun h => (mtype_pos _).2 h h0
    have HZ := hid h0
    clear h0
    go_enter Tryz.func61, Tryz.ntmps61
    go_wp2_with (go_at_call 81; refine (l10Type_any s _).mono ?_; rintro e w' ⟨rfl, hw⟩; have hw2 := hw.symm; clear hw; subst hw2; rw [HZ.out])
    go_loop [3] (fun i => ∃ k : Nat, 1 ≤ k ∧ k ≤ 13 ∧ i = .int .i64 k ∧ ∀ j, j + 1 < k → bws.getD j [] ≠ s.data.toList) (fun i => 13 - (intOf i).toNat)
    case atStart => exact ⟨1, by omega, by omega, rfl, fun j h => by omega⟩
    case round =>
      obtain ⟨k, hk1, hk, rfl, hr⟩ := hrel
      have HR := hid hr
      clear hr
      by_cases hlt : k ≤ 12
      · have HQ := hid (str_eq (bws.getD (k - 1) []) s)
        by_cases he : bws.getD (k - 1) [] = s.data.toList
        · have hq : ((bwS (k - 1)).toList == s.toList) = true := by unfold bwS; rw [HQ.out]; simpa using he
          have HE : Hid (decide (s.data.toList ∈ mws) = true) := decide_eq_true (HM.out.2 (.inr (.inr ((mem_get _ _).2 ⟨k - 1, by (show k - 1 < 12); omega, he⟩))))
          clear HQ he HM
          go_wp2_with (go_at_call 44; refine (l10BuiltWord_any k hk1 hlt _).mono ?_; rintro e w' ⟨⟨nb, rfl⟩, hw⟩; have hw2 := hw.symm; clear hw; subst hw2)
          go_ret
          exact ⟨ret_bool (by rw [HE.out]), Below.refl _ _⟩
        · have hq : ((bwS (k - 1)).toList == s.toList) = false := by unfold bwS; rw [HQ.out]; simpa using he
          have HN := hid he
          clear HQ he
          go_wp2_with (go_at_call 44; refine (l10BuiltWord_any k hk1 hlt _).mono ?_; rintro e w' ⟨⟨nb, rfl⟩, hw⟩; have hw2 := hw.symm; clear hw; subst hw2)
          go_round
          case rel => exact ⟨k + 1, by omega, by omega, by go_num, fun j h => by
            rcases Nat.lt_or_eq_of_le (show j + 1 ≤ k by omega) with h | h
            · exact HR.out j h
            · have e : j = k - 1 := by omega
              subst e; exact HN.out⟩
          case measure => simp [intOf]; omega
      · have HB0 : Hid (¬ s.data.toList ∈ bws) := not_mem_get _ _ fun i hi => HR.out i (by have : bws.length = 12 := rfl; omega)
        clear HR
        go_wp2_with (go_at_call 82; refine (l10Plain_any _).mono ?_; rintro e w' ⟨rfl, rfl⟩)
        go_loop [7] (fun i => ∃ k : Nat, k ≤ 13 ∧ i = .int .i64 k ∧ ∀ j, j < k → pws.getD j [] ≠ s.data.toList) (fun i => 13 - (intOf i).toNat)
        case atStart => exact ⟨0, by omega, rfl, fun j h => by omega⟩
        case round =>
          obtain ⟨m, hm, rfl, hr⟩ := hrel
          have HR := hid hr
          clear hr
          by_cases hlt2 : m < 13
          · have hcell := pwS_cell w m hlt2
            have HQ := hid (str_eq (pws.getD m []) s)
            by_cases he : pws.getD m [] = s.data.toList
            · have hq : ((pwS m).toList == s.toList) = true := by unfold pwS; rw [HQ.out]; simpa using he
              have HE : Hid (decide (s.data.toList ∈ mws) = true) := decide_eq_true (HM.out.2 (.inr (.inl ((mem_get _ _).2 ⟨m, hlt2, he⟩))))
              clear HQ he HM
              go_wp2
              go_ret
              exact ⟨ret_bool (by rw [HE.out]), (Below.refl _ _).alloc (Nat.le_refl _) _⟩
            · have hq : ((pwS m).toList == s.toList) = false := by unfold pwS; rw [HQ.out]; simpa using he
              have HN := hid he
              clear HQ he
              go_wp2
              go_round
              case rel => exact ⟨m + 1, by omega, by go_num, fun j h => by
                rcases Nat.lt_or_eq_of_le (show j ≤ m by omega) with h | h
                · exact HR.out j h
                · subst h; exact HN.out⟩
              case measure => simp [intOf]; omega
          · have HE : Hid (decide (s.data.toList ∈ mws) = false) := decide_eq_false fun h => by
              rcases HM.out.1 h with h | h | h
              · exact HT0.out h
              · exact not_mem_get _ _ (fun i hi => HR.out i (by have : pws.length = 13 := rfl; omega)) h
              · exact HB0.out h
            clear HM HT0 HB0 HR
            go_wp2
            go_ret
            exact ⟨ret_bool (by rw [HE.out]), (Below.refl _ _).alloc (Nat.le_refl _) _⟩
  · have HE : Hid (decide (s.data.toList ∈ mws) = true) := decide_eq_true (HM.out.2 (.inl ((mtype_pos _).1 h0)))
    have h0' : ((mtype s.data.toList : Int) != 0) = true := by simp; omega
    clear h0 HM
    go_enter Tryz.func61, Tryz.ntmps61
    go_wp2_with (go_at_call 81; refine (l10Type_any s _).mono ?_; rintro e w' ⟨rfl, hw⟩; have hw2 := hw.symm; clear hw; subst hw2)
    go_ret
    exact ⟨ret_bool (by rw [HE.out]), Below.refl _ _⟩
end Go.Proofs.YtkngjbpbjjoneaaGreatDoor.Q
/-! Printed by gen_fit.py. -/
namespace Go.Proofs.YtkngjbpbjjoneaaGreatDoor.Q
open Go.RowKit Go.Shelf
set_option maxRecDepth 20000
theorem ko_1 (op ty n kids : Int) (t : ByteArray) (m : Nat) (kd : Nat → Int) : KidsOk ⟨1, op, ty, n, t, kids⟩ m kd ↔ m = 0 := by simp [KidsOk]
theorem ko_2 (op ty n kids : Int) (t : ByteArray) (m : Nat) (kd : Nat → Int) : KidsOk ⟨2, op, ty, n, t, kids⟩ m kd ↔ m = 0 := by simp [KidsOk]
theorem ko_3 (op ty n kids : Int) (t : ByteArray) (m : Nat) (kd : Nat → Int) : KidsOk ⟨3, op, ty, n, t, kids⟩ m kd ↔ m = 0 := by simp [KidsOk]
theorem ko_4 (op ty n kids : Int) (t : ByteArray) (m : Nat) (kd : Nat → Int) : KidsOk ⟨4, op, ty, n, t, kids⟩ m kd ↔ m = 0 := by simp [KidsOk]
theorem ko_5 (op ty n kids : Int) (t : ByteArray) (m : Nat) (kd : Nat → Int) : KidsOk ⟨5, op, ty, n, t, kids⟩ m kd ↔ m = 1 ∧ AllE m kd := by simp [KidsOk]
theorem ko_6 (op ty n kids : Int) (t : ByteArray) (m : Nat) (kd : Nat → Int) : KidsOk ⟨6, op, ty, n, t, kids⟩ m kd ↔ m = 2 ∧ AllE m kd := by simp [KidsOk]
theorem ko_7 (op ty n kids : Int) (t : ByteArray) (m : Nat) (kd : Nat → Int) : KidsOk ⟨7, op, ty, n, t, kids⟩ m kd ↔ m ≤ 8 ∧ AllE m kd := by simp [KidsOk]
theorem ko_8 (op ty n kids : Int) (t : ByteArray) (m : Nat) (kd : Nat → Int) : KidsOk ⟨8, op, ty, n, t, kids⟩ m kd ↔ m = builtKids op ∧ AllE m kd := by simp [KidsOk]
theorem ko_9 (op ty n kids : Int) (t : ByteArray) (m : Nat) (kd : Nat → Int) : KidsOk ⟨9, op, ty, n, t, kids⟩ m kd ↔ m = 1 ∧ AllE m kd := by simp [KidsOk]
theorem ko_10 (op ty n kids : Int) (t : ByteArray) (m : Nat) (kd : Nat → Int) : KidsOk ⟨10, op, ty, n, t, kids⟩ m kd ↔ m = 1 ∧ AllE m kd := by simp [KidsOk]
theorem ko_11 (op ty n kids : Int) (t : ByteArray) (m : Nat) (kd : Nat → Int) : KidsOk ⟨11, op, ty, n, t, kids⟩ m kd ↔ m = 1 ∧ AllE m kd := by simp [KidsOk]
theorem ko_12 (op ty n kids : Int) (t : ByteArray) (m : Nat) (kd : Nat → Int) : KidsOk ⟨12, op, ty, n, t, kids⟩ m kd ↔ (m = 2 ∨ m = 3) ∧ mE (kd 0) ∧ kd 1 = 21 ∧ (m = 3 → kd 2 = 21 ∨ kd 2 = 12) := by simp [KidsOk]
theorem ko_13 (op ty n kids : Int) (t : ByteArray) (m : Nat) (kd : Nat → Int) : KidsOk ⟨13, op, ty, n, t, kids⟩ m kd ↔ m = 2 ∧ mE (kd 0) ∧ kd 1 = 21 := by simp [KidsOk]
theorem ko_14 (op ty n kids : Int) (t : ByteArray) (m : Nat) (kd : Nat → Int) : KidsOk ⟨14, op, ty, n, t, kids⟩ m kd ↔ m = 0 := by simp [KidsOk]
theorem ko_15 (op ty n kids : Int) (t : ByteArray) (m : Nat) (kd : Nat → Int) : KidsOk ⟨15, op, ty, n, t, kids⟩ m kd ↔ m = 0 := by simp [KidsOk]
theorem ko_16 (op ty n kids : Int) (t : ByteArray) (m : Nat) (kd : Nat → Int) : KidsOk ⟨16, op, ty, n, t, kids⟩ m kd ↔ m ≤ 1 ∧ AllE m kd := by simp [KidsOk]
theorem ko_17 (op ty n kids : Int) (t : ByteArray) (m : Nat) (kd : Nat → Int) : KidsOk ⟨17, op, ty, n, t, kids⟩ m kd ↔ m = 1 ∧ AllE m kd := by simp [KidsOk]
theorem ko_18 (op ty n kids : Int) (t : ByteArray) (m : Nat) (kd : Nat → Int) : KidsOk ⟨18, op, ty, n, t, kids⟩ m kd ↔ m = 2 ∧ AllE m kd := by simp [KidsOk]
theorem ko_19 (op ty n kids : Int) (t : ByteArray) (m : Nat) (kd : Nat → Int) : KidsOk ⟨19, op, ty, n, t, kids⟩ m kd ↔ m = 1 ∧ AllE m kd := by simp [KidsOk]
theorem ko_20 (op ty n kids : Int) (t : ByteArray) (m : Nat) (kd : Nat → Int) : KidsOk ⟨20, op, ty, n, t, kids⟩ m kd ↔ m = 1 ∧ kd 0 = 7 := by simp [KidsOk]
theorem ko_21 (op ty n kids : Int) (t : ByteArray) (m : Nat) (kd : Nat → Int) : KidsOk ⟨21, op, ty, n, t, kids⟩ m kd ↔ ∀ i, i < m → mS (kd i) := by simp [KidsOk]
theorem ko_22 (op ty n kids : Int) (t : ByteArray) (m : Nat) (kd : Nat → Int) : KidsOk ⟨22, op, ty, n, t, kids⟩ m kd ↔ m = 0 := by simp [KidsOk]
theorem ko_23 (op ty n kids : Int) (t : ByteArray) (m : Nat) (kd : Nat → Int) : KidsOk ⟨23, op, ty, n, t, kids⟩ m kd ↔ 1 ≤ m ∧ m ≤ 9 ∧ (∀ i, i + 1 < m → kd i = 22) ∧ kd (m - 1) = 21 := by simp [KidsOk]
theorem ko_24 (op ty n kids : Int) (t : ByteArray) (m : Nat) (kd : Nat → Int) : KidsOk ⟨24, op, ty, n, t, kids⟩ m kd ↔ 1 ≤ m ∧ m ≤ 60 ∧ ∀ i, i < m → kd i = 23 := by simp [KidsOk]
theorem ko_E (k op ty n kids : Int) (t : ByteArray) (m : Nat) (kd : Nat → Int) (hk : k < 1 ∨ 24 < k) : ¬ KidsOk ⟨k, op, ty, n, t, kids⟩ m kd := by
  unfold KidsOk
  rintro (h | h | h | h | h | h | h | h | h | h | h | h)
  all_goals have h0 := h.1
  all_goals simp at h0
  all_goals omega
theorem allE_1 (kd : Nat → Int) : AllE 1 kd ↔ mE (kd 0) := by
  constructor
  · intro h; exact h 0 (by omega)
  · intro h i hi
    obtain rfl : i = 0 := by omega
    exact h
theorem eBool (k : Int) : (decide (1 ≤ k) && decide (k ≤ 9)) = true ↔ mE k := by unfold mE; simp
theorem sBool (k : Int) : (decide (10 ≤ k) && decide (k ≤ 20)) = true ↔ mS k := by unfold mS; simp
theorem all_step {P : Nat → Prop} {q : Nat} (h : ∀ i, i < q → P i) (hq : P q) : ∀ i, i < q + 1 → P i := fun i hi => by
  rcases Nat.lt_or_eq_of_le (Nat.lt_succ_iff.1 hi) with h' | h'
  · exact h i h'
  · subst h'; exact hq
end Go.Proofs.YtkngjbpbjjoneaaGreatDoor.Q
