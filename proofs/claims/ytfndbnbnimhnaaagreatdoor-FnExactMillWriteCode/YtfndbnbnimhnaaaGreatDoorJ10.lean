import Derived.Test.YtfndbnbnimhnaaaGreatDoorJ09
/-! The model's small functions of types. -/
namespace Go.Proofs.YtfndbnbnimhnaaaGreatDoor.C
open Go.RowKit
set_option maxRecDepth 20000
theorem ret_bool {a b : Bool} (h : a = b) : Ending.returned (.bool a) = .returned (.bool b) := by rw [h]
theorem ret_int {k : IntKind} {a b : Int} (h : a = b) : Ending.returned (.int k a) = .returned (.int k b) := by rw [h]
def inB (n lo hi : Int) : Bool := decide (lo ≤ n) && decide (n ≤ hi)
set_option maxHeartbeats 400000 in
theorem l16In_any (n lo hi : Int) (w : World) :
    Calls Tryz.prog 66 #[.int .i64 n, .int .i64 lo, .int .i64 hi] w fun e w' => e = .returned (.bool (inB n lo hi)) ∧ w' = w := by
  by_cases h1 : lo ≤ n
  · by_cases h2 : n ≤ hi
    · go_enter Tryz.func66, Tryz.ntmps66
      go_wp2
      go_ret
      exact ⟨ret_bool (by simp [inB, h1, h2]), rfl⟩
    · go_enter Tryz.func66, Tryz.ntmps66
      go_wp2
      go_ret
      exact ⟨ret_bool (by simp [inB, h1]; omega), rfl⟩
  · go_enter Tryz.func66, Tryz.ntmps66
    go_wp2
    go_ret
    exact ⟨ret_bool (by simp [inB]; omega), rfl⟩
set_option maxHeartbeats 400000 in
theorem l10Integer_c (t : Int) (w : World) :
    Calls Tryz.prog 109 #[.int .i64 t] w fun e w' => e = .returned (.bool (isI t)) ∧ w' = w := by
  by_cases h1 : 3 ≤ t
  · by_cases h2 : t ≤ 10
    · go_enter Tryz.func109, Tryz.ntmps109
      go_wp2
      go_ret
      exact ⟨ret_bool (by simp [isI, h1, h2]), rfl⟩
    · go_enter Tryz.func109, Tryz.ntmps109
      go_wp2
      go_ret
      exact ⟨ret_bool (by simp [isI, h1]; omega), rfl⟩
  · go_enter Tryz.func109, Tryz.ntmps109
    go_wp2
    go_ret
    exact ⟨ret_bool (by simp [isI]; omega), rfl⟩
set_option maxHeartbeats 1000000 in
theorem l12Un_any (op k : Int) (w : World) :
    Calls Tryz.prog 111 #[.int .i64 op, .int .i64 k] w fun e w' => e = .returned (.int .i64 (unG op k)) ∧ w' = w := by
  by_cases h2 : op = 2
  · subst h2
    by_cases h1 : k = 1
    · subst h1
      go_enter Tryz.func111, Tryz.ntmps111
      go_wp2
      go_ret
      exact ⟨rfl, rfl⟩
    · have h1f : (k == 1) = false := by simpa using h1
      go_enter Tryz.func111, Tryz.ntmps111
      go_wp2
      go_ret
      exact ⟨ret_int (by simp [unG, h1]), rfl⟩
  · have h2f : (op == 2) = false := by simpa using h2
    cases hi : isI k
    · have HI : Hid (isI k = false) := hi
      clear hi
      go_enter Tryz.func111, Tryz.ntmps111
      go_wp2_with (go_at_call 109; refine (l10Integer_c _ _).mono ?_; rintro e w' ⟨rfl, hw⟩; have hw2 := hw.symm; clear hw; subst hw2; rw [HI.out])
      go_ret
      exact ⟨ret_int (by simp [unG, h2, HI.out]), rfl⟩
    · have HI : Hid (isI k = true) := hi
      clear hi
      go_enter Tryz.func111, Tryz.ntmps111
      go_wp2_with (go_at_call 109; refine (l10Integer_c _ _).mono ?_; rintro e w' ⟨rfl, hw⟩; have hw2 := hw.symm; clear hw; subst hw2; rw [HI.out])
      go_ret
      exact ⟨ret_int (by simp [unG, h2, HI.out]), rfl⟩
set_option maxHeartbeats 4000000 in
theorem l12Bin_any (op a b : Int) (w : World) (h1 : 3 ≤ op) (h2 : op ≤ 18) :
    Calls Tryz.prog 112 #[.int .i64 op, .int .i64 a, .int .i64 b] w fun e w' => e = .returned (.int .i64 (binG op a b)) ∧ w' = w := by
  by_cases hab : a = b
  · subst hab
    by_cases h0 : a = 0
    · subst h0
      have hnn : ((0 : Int) != 0) = false := rfl
      go_enter Tryz.func112, Tryz.ntmps112
      go_wp2
      go_ret
      exact ⟨ret_int (by simp [binG]), rfl⟩
    · have h0f : (a == 0) = false := by simpa using h0
      have hnn : (a != a) = false := by simp
      obtain rfl | rfl | rfl | rfl | rfl | rfl | rfl | h10 : op = 3 ∨ op = 4 ∨ op = 5 ∨ op = 6 ∨ op = 7 ∨ op = 8 ∨ op = 9 ∨ 10 ≤ op := by omega
      · go_enter Tryz.func112, Tryz.ntmps112
        go_wp2
        go_ret
        exact ⟨ret_int (by simp [binG, h0]), rfl⟩
      · go_enter Tryz.func112, Tryz.ntmps112
        go_wp2
        go_ret
        exact ⟨ret_int (by simp [binG, h0]), rfl⟩
      iterate 4
        · by_cases h1b : a = 1
          · subst h1b
            go_enter Tryz.func112, Tryz.ntmps112
            go_wp2
            go_ret
            exact ⟨ret_int (by simp [binG]), rfl⟩
          · have hbf : (a != 1) = true := by simpa using h1b
            go_enter Tryz.func112, Tryz.ntmps112
            go_wp2
            go_ret
            exact ⟨ret_int (by simp [binG, h0, h1b]), rfl⟩
      · by_cases h1b : a = 1
        · subst h1b
          go_enter Tryz.func112, Tryz.ntmps112
          go_wp2
          go_ret
          exact ⟨ret_int (by simp [binG]), rfl⟩
        · have hbf : (a != 1) = true := by simpa using h1b
          go_enter Tryz.func112, Tryz.ntmps112
          go_wp2
          go_ret
          exact ⟨ret_int (by simp [binG, h0, h1b]), rfl⟩
      · have e1 : (op == 1) = false := by simp; omega
        have e2 : (op == 2) = false := by simp; omega
        have e3 : (op == 3) = false := by simp; omega
        have e4 : (op == 4) = false := by simp; omega
        have e5 : (op == 5) = false := by simp; omega
        have e6 : (op == 6) = false := by simp; omega
        have e7 : (op == 7) = false := by simp; omega
        have e8 : (op == 8) = false := by simp; omega
        have e9 : (op == 9) = false := by simp; omega
        have HR : Hid (binG op a a = if isI a = true then a else 0) := by
          show _ = _
          unfold binG
          rw [if_neg (by simp [h0]), if_neg (by omega), if_neg (by omega), if_neg (by omega)]
        cases hi : isI a
        · have HI : Hid (isI a = false) := hi
          clear hi
          go_enter Tryz.func112, Tryz.ntmps112
          go_wp2_with (go_at_call 109; refine (l10Integer_c _ _).mono ?_; rintro e w' ⟨rfl, hw⟩; have hw2 := hw.symm; clear hw; subst hw2; rw [HI.out])
          go_ret
          exact ⟨ret_int (by rw [HR.out, HI.out]; rfl), rfl⟩
        · have HI : Hid (isI a = true) := hi
          clear hi
          go_enter Tryz.func112, Tryz.ntmps112
          go_wp2_with (go_at_call 109; refine (l10Integer_c _ _).mono ?_; rintro e w' ⟨rfl, hw⟩; have hw2 := hw.symm; clear hw; subst hw2; rw [HI.out])
          go_ret
          exact ⟨ret_int (by rw [HR.out, HI.out]; rfl), rfl⟩
  · have hnn : (a != b) = true := by simpa using hab
    go_enter Tryz.func112, Tryz.ntmps112
    go_wp2
    go_ret
    exact ⟨ret_int (by simp [binG, hab]), rfl⟩
end Go.Proofs.YtfndbnbnimhnaaaGreatDoor.C
