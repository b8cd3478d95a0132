import Derived.Test.YtfedmbadhcdpdaaGreatDoorJ00
/-! Valid values: the model's answer and the program's. -/
namespace Go.Proofs.YtfedmbadhcdpdaaGreatDoor.V
open Go.RowKit Go.Shelf
set_option maxRecDepth 20000
theorem notEmpty (s : ByteArray) (hp : 0 < s.size) : s.toList.isEmpty = false := by
  rw [Lib.toList_data]
  match s, hp with
  | ⟨⟨c :: r⟩⟩, _ => rfl
  | ⟨⟨[]⟩⟩, h => exact absurd h (by decide)
theorem size_zero {s : ByteArray} (h : s.size = 0) : s = ⟨#[]⟩ := by
  match s, h with
  | ⟨⟨[]⟩⟩, _ => rfl
  | ⟨⟨c :: r⟩⟩, h => exact absurd h (by simp [ByteArray.size])
/-- Which values are valid. -/
def validB (t n : Int) (s : ByteArray) : Bool :=
  if t = 1 then decide (s.size = 0) && decide (n = 0 ∨ n = 1)
  else if t = 2 then decide (n = 0) && decide (s.size ≤ 3000)
  else decide (3 ≤ t) && decide (t ≤ 10) && decide (s.size = 0) && decide (n = into t n)
abbrev val (t n : Int) (s : ByteArray) : Value := .agg #[.int .i64 t, .int .i64 n, .string s]
theorem u64_bd (n : Int) : 0 ≤ IntKind.u64.wrap n ∧ IntKind.u64.wrap n ≤ 18446744073709551615 := by
  simp [IntKind.wrap, IntKind.bits, IntKind.signed]; omega
theorem into_u64 (t n : Int) : into t (IntKind.u64.wrap n) = into t n := intoK_u64 _ _
theorem valid_int {t n : Int} {s : ByteArray} (h1 : 3 ≤ t) (h2 : t ≤ 10) : validB t n s = (decide (s.size = 0) && decide (n = into t n)) := by
  unfold validB
  rw [if_neg (by omega), if_neg (by omega)]
  simp [h1, h2]
theorem valid_out {t n : Int} {s : ByteArray} (h0 : t ≠ 1) (h1 : t ≠ 2) (h2 : ¬ (3 ≤ t ∧ t ≤ 10)) : validB t n s = false := by
  unfold validB
  rw [if_neg h0, if_neg h1]
  have : (decide (3 ≤ t) && decide (t ≤ 10)) = false := by
    rw [Bool.eq_false_iff]; simpa using fun h => Int.not_le.1 fun k => h2 ⟨h, k⟩
  rw [this]; rfl
theorem alloc_below (w : World) (o : Obj) : Below w.heap.size w (w.alloc o) := (Below.refl _ _).alloc (Nat.le_refl _) o
theorem alloc_drew (w : World) (o : Obj) : Below w.heap.size w (w.alloc o).drew := (alloc_below w o).drew
theorem isInt_t {t : Int} (h3 : 3 ≤ t) (h4 : t ≤ 10) : (decide (3 ≤ t) && decide (t ≤ 10)) = true := by simp [h3, h4]
theorem isInt_f {t : Int} (h3 : ¬ (3 ≤ t ∧ t ≤ 10)) : (decide (3 ≤ t) && decide (t ≤ 10)) = false := by
  rw [Bool.eq_false_iff]; simpa using fun h => Int.not_le.1 fun k => h3 ⟨h, k⟩
set_option maxHeartbeats 1000000 in
theorem specVV1 (n : Int) (s : ByteArray) (w : World) :
    Calls Tryz.prog 63 #[val 1 n s] w fun e w' => e = .returned (.bool (validB 1 n s)) ∧ Below w.heap.size w w' := by
  by_cases hs : s.size = 0
  · obtain rfl := size_zero hs
    clear hs
    by_cases h0 : n = 0
    · subst h0
      go_enter Tryz.func63, Tryz.ntmps63
      go_wp2
      go_ret
      exact ⟨rfl, by first | exact alloc_below _ _ | exact alloc_drew _ _⟩
    · by_cases h1 : n = 1
      · subst h1
        clear h0
        go_enter Tryz.func63, Tryz.ntmps63
        go_wp2
        go_ret
        exact ⟨rfl, by first | exact alloc_below _ _ | exact alloc_drew _ _⟩
      · have HN : Hid (validB 1 n ⟨#[]⟩ = false) := by show _ = _; simp [validB, h0, h1]
        go_enter Tryz.func63, Tryz.ntmps63
        go_wp2
        go_ret
        exact ⟨ret_bool (by rw [HN.out]; try simp [h0, h1]), by first | exact alloc_below _ _ | exact alloc_drew _ _⟩
  · have hs2 := notEmpty s (by omega)
    have HN : Hid (validB 1 n s = false) := by show _ = _; simp [validB, hs]
    clear hs
    by_cases h0 : n = 0
    · subst h0
      go_enter Tryz.func63, Tryz.ntmps63
      go_wp2
      go_ret
      exact ⟨ret_bool (by rw [HN.out]), by first | exact alloc_below _ _ | exact alloc_drew _ _⟩
    · go_enter Tryz.func63, Tryz.ntmps63
      go_wp2
      all_goals go_ret
      all_goals exact ⟨ret_bool (by rw [HN.out]), by first | exact alloc_below _ _ | exact alloc_drew _ _⟩
set_option maxHeartbeats 1000000 in
theorem specVV2 (n : Int) (s : ByteArray) (w : World) :
    Calls Tryz.prog 63 #[val 2 n s] w fun e w' => e = .returned (.bool (validB 2 n s)) ∧ Below w.heap.size w w' := by
  by_cases h0 : n = 0
  · subst h0
    by_cases hs : s.size ≤ 3000
    · have HN : Hid (validB 2 0 s = true) := by show _ = _; simp [validB, hs]
      go_enter Tryz.func63, Tryz.ntmps63
      go_wp2
      go_ret
      exact ⟨ret_bool (by rw [HN.out]; simp; omega), by first | exact alloc_below _ _ | exact alloc_drew _ _⟩
    · have HN : Hid (validB 2 0 s = false) := by show _ = _; simp [validB, hs]
      go_enter Tryz.func63, Tryz.ntmps63
      go_wp2
      go_ret
      exact ⟨ret_bool (by rw [HN.out]; simp; omega), by first | exact alloc_below _ _ | exact alloc_drew _ _⟩
  · have HN : Hid (validB 2 n s = false) := by show _ = _; simp [validB, h0]
    go_enter Tryz.func63, Tryz.ntmps63
    go_wp2
    go_ret
    exact ⟨ret_bool (by rw [HN.out]), by first | exact alloc_below _ _ | exact alloc_drew _ _⟩
set_option maxHeartbeats 1000000 in
theorem implVV1 (n : Int) (s : ByteArray) (w : World) :
    Calls Tryz.prog 83 #[val 1 n s] w fun e w' => e = .returned (.bool (validB 1 n s)) ∧ Below w.heap.size w w' := by
  by_cases hs : s.size = 0
  · obtain rfl := size_zero hs
    clear hs
    by_cases h0 : n = 0
    · subst h0
      go_enter Tryz.func83, Tryz.ntmps83
      go_wp2
      go_ret
      exact ⟨rfl, by first | exact alloc_below _ _ | exact alloc_drew _ _⟩
    · by_cases h1 : n = 1
      · subst h1
        clear h0
        go_enter Tryz.func83, Tryz.ntmps83
        go_wp2
        go_ret
        exact ⟨rfl, by first | exact alloc_below _ _ | exact alloc_drew _ _⟩
      · have HN : Hid (validB 1 n ⟨#[]⟩ = false) := by show _ = _; simp [validB, h0, h1]
        go_enter Tryz.func83, Tryz.ntmps83
        go_wp2
        go_ret
        exact ⟨ret_bool (by rw [HN.out]; try simp [h0, h1]), by first | exact alloc_below _ _ | exact alloc_drew _ _⟩
  · have hs2 := notEmpty s (by omega)
    have HN : Hid (validB 1 n s = false) := by show _ = _; simp [validB, hs]
    clear hs
    by_cases h0 : n = 0
    · subst h0
      go_enter Tryz.func83, Tryz.ntmps83
      go_wp2
      go_ret
      exact ⟨ret_bool (by rw [HN.out]), by first | exact alloc_below _ _ | exact alloc_drew _ _⟩
    · go_enter Tryz.func83, Tryz.ntmps83
      go_wp2
      all_goals go_ret
      all_goals exact ⟨ret_bool (by rw [HN.out]), by first | exact alloc_below _ _ | exact alloc_drew _ _⟩
set_option maxHeartbeats 1000000 in
theorem implVV2 (n : Int) (s : ByteArray) (w : World) :
    Calls Tryz.prog 83 #[val 2 n s] w fun e w' => e = .returned (.bool (validB 2 n s)) ∧ Below w.heap.size w w' := by
  by_cases h0 : n = 0
  · subst h0
    by_cases hs : s.size ≤ 3000
    · have HN : Hid (validB 2 0 s = true) := by show _ = _; simp [validB, hs]
      go_enter Tryz.func83, Tryz.ntmps83
      go_wp2
      go_ret
      exact ⟨ret_bool (by rw [HN.out]; simp; omega), by first | exact alloc_below _ _ | exact alloc_drew _ _⟩
    · have HN : Hid (validB 2 0 s = false) := by show _ = _; simp [validB, hs]
      go_enter Tryz.func83, Tryz.ntmps83
      go_wp2
      go_ret
      exact ⟨ret_bool (by rw [HN.out]; simp; omega), by first | exact alloc_below _ _ | exact alloc_drew _ _⟩
  · have HN : Hid (validB 2 n s = false) := by show _ = _; simp [validB, h0]
    go_enter Tryz.func83, Tryz.ntmps83
    go_wp2
    go_ret
    exact ⟨ret_bool (by rw [HN.out]), by first | exact alloc_below _ _ | exact alloc_drew _ _⟩
theorem l10Integer_t (t : Int) (h3 : 3 ≤ t) (h4 : t ≤ 10) (w : World) : Calls Tryz.prog 64 #[.int .i64 t] w fun e w' => e = .returned (.bool true) ∧ w' = w := by
  have := l10Integer_any t w
  rwa [isInt_t h3 h4] at this
theorem l10Integer_f (t : Int) (h3 : ¬ (3 ≤ t ∧ t ≤ 10)) (w : World) : Calls Tryz.prog 64 #[.int .i64 t] w fun e w' => e = .returned (.bool false) ∧ w' = w := by
  have := l10Integer_any t w
  rwa [isInt_f h3] at this
theorem millIsInteger_t (t : Int) (h3 : 3 ≤ t) (h4 : t ≤ 10) (w : World) : Calls Tryz.prog 101 #[.int .i64 t] w fun e w' => e = .returned (.bool true) ∧ w' = w := by
  have := millIsInteger_any t w
  rwa [isInt_t h3 h4] at this
theorem millIsInteger_f (t : Int) (h3 : ¬ (3 ≤ t ∧ t ≤ 10)) (w : World) : Calls Tryz.prog 101 #[.int .i64 t] w fun e w' => e = .returned (.bool false) ∧ w' = w := by
  have := millIsInteger_any t w
  rwa [isInt_f h3] at this
theorem alloc_drewN (w : World) (o : Obj) (n : Nat) : Below w.heap.size w ((w.alloc o).drewN n) := (alloc_below w o).trans ⟨rfl, rfl, rfl, Nat.le_refl _, fun _ _ => rfl⟩
theorem into_n (t n : Int) (h3 : 3 ≤ t) (h4 : t ≤ 10) (W : World) : Calls Tryz.prog 95 #[.int .i64 t, .int .u64 (IntKind.u64.wrap n)] W fun e w' => e = .returned (.int .i64 (into t n)) ∧ w' = W := by
  have := l13Into_any t _ h3 h4 (u64_bd n).1 (u64_bd n).2 W
  rwa [into_u64] at this
set_option maxHeartbeats 400000 in
theorem taken_u8 (n : Int) (_h1 : -9223372036854775808 ≤ n) (_h2 : n ≤ 9223372036854775807) (w : World) :
    Calls Tryz.prog 118 #[.int .i64 n] w fun e w' => e = .returned (.int .i64 (intoK .u8 n)) ∧ w' = w := by
  go_enter Tryz.func118, Tryz.ntmps118
  go_wp2
  go_ret
  exact ⟨ret_int (by simp [intoK, IntKind.wrap, IntKind.bits, IntKind.signed] <;> omega), rfl⟩
set_option maxHeartbeats 400000 in
theorem taken_u16 (n : Int) (_h1 : -9223372036854775808 ≤ n) (_h2 : n ≤ 9223372036854775807) (w : World) :
    Calls Tryz.prog 119 #[.int .i64 n] w fun e w' => e = .returned (.int .i64 (intoK .u16 n)) ∧ w' = w := by
  go_enter Tryz.func119, Tryz.ntmps119
  go_wp2
  go_ret
  exact ⟨ret_int (by simp [intoK, IntKind.wrap, IntKind.bits, IntKind.signed, wrap64] <;> omega), rfl⟩
set_option maxHeartbeats 400000 in
theorem taken_u32 (n : Int) (_h1 : -9223372036854775808 ≤ n) (_h2 : n ≤ 9223372036854775807) (w : World) :
    Calls Tryz.prog 120 #[.int .i64 n] w fun e w' => e = .returned (.int .i64 (intoK .u32 n)) ∧ w' = w := by
  go_enter Tryz.func120, Tryz.ntmps120
  go_wp2
  go_ret
  exact ⟨ret_int (by simp [intoK, IntKind.wrap, IntKind.bits, IntKind.signed] <;> omega), rfl⟩
set_option maxHeartbeats 400000 in
theorem taken_i8 (n : Int) (_h1 : -9223372036854775808 ≤ n) (_h2 : n ≤ 9223372036854775807) (w : World) :
    Calls Tryz.prog 121 #[.int .i64 n] w fun e w' => e = .returned (.int .i64 (intoK .i8 n)) ∧ w' = w := by
  go_enter Tryz.func121, Tryz.ntmps121
  go_wp2
  go_ret
  exact ⟨ret_int (by simp [intoK, IntKind.wrap, IntKind.bits, IntKind.signed, wrap64] <;> omega), rfl⟩
set_option maxHeartbeats 400000 in
theorem taken_i16 (n : Int) (_h1 : -9223372036854775808 ≤ n) (_h2 : n ≤ 9223372036854775807) (w : World) :
    Calls Tryz.prog 122 #[.int .i64 n] w fun e w' => e = .returned (.int .i64 (intoK .i16 n)) ∧ w' = w := by
  go_enter Tryz.func122, Tryz.ntmps122
  go_wp2
  go_ret
  exact ⟨ret_int (by simp [intoK, IntKind.wrap, IntKind.bits, IntKind.signed, wrap64] <;> omega), rfl⟩
set_option maxHeartbeats 400000 in
theorem taken_i32 (n : Int) (_h1 : -9223372036854775808 ≤ n) (_h2 : n ≤ 9223372036854775807) (w : World) :
    Calls Tryz.prog 123 #[.int .i64 n] w fun e w' => e = .returned (.int .i64 (intoK .i32 n)) ∧ w' = w := by
  go_enter Tryz.func123, Tryz.ntmps123
  go_wp2
  go_ret
  exact ⟨ret_int (by simp [intoK, IntKind.wrap, IntKind.bits, IntKind.signed, wrap64, wrap32] <;> omega), rfl⟩
set_option maxHeartbeats 1000000 in
theorem millInto_any (t n : Int) (h3 : 3 ≤ t) (h4 : t ≤ 10) (h1 : -9223372036854775808 ≤ n) (h2 : n ≤ 9223372036854775807) (w : World) :
    Calls Tryz.prog 102 #[.int .i64 t, .int .i64 n] w fun e w' => e = .returned (.int .i64 (into t n)) ∧ w' = w := by
  have H6 : Hid (into 6 n = n) := by show _ = _; simp [into, intoK, kT6, IntKind.wrap, IntKind.bits, IntKind.signed]; omega
  have H10 : Hid (into 10 n = n) := by show _ = _; simp [into, intoK, kT10, IntKind.wrap, IntKind.bits, IntKind.signed]; omega
  obtain rfl | rfl | rfl | rfl | rfl | rfl | rfl | rfl := typ8 h3 h4
  all_goals clear h3 h4
  all_goals go_enter Tryz.func102, Tryz.ntmps102
  all_goals go_wp2_with (first
    | (go_at_call 118; refine (taken_u8 n h1 h2 _).mono ?_; rintro e w' ⟨rfl, rfl⟩)
    | (go_at_call 119; refine (taken_u16 n h1 h2 _).mono ?_; rintro e w' ⟨rfl, rfl⟩)
    | (go_at_call 120; refine (taken_u32 n h1 h2 _).mono ?_; rintro e w' ⟨rfl, rfl⟩)
    | (go_at_call 121; refine (taken_i8 n h1 h2 _).mono ?_; rintro e w' ⟨rfl, rfl⟩)
    | (go_at_call 122; refine (taken_i16 n h1 h2 _).mono ?_; rintro e w' ⟨rfl, rfl⟩)
    | (go_at_call 123; refine (taken_i32 n h1 h2 _).mono ?_; rintro e w' ⟨rfl, rfl⟩)
    | fail)
  all_goals go_ret
  all_goals (first | exact ⟨rfl, rfl⟩ | exact ⟨ret_int H6.out.symm, rfl⟩ | exact ⟨ret_int H10.out.symm, rfl⟩)
set_option maxHeartbeats 1000000 in
theorem specVV3 (t n : Int) (s : ByteArray) (h3 : 3 ≤ t) (h4 : t ≤ 10) (_hn1 : -9223372036854775808 ≤ n) (_hn2 : n ≤ 9223372036854775807) (w : World) :
    Calls Tryz.prog 63 #[val t n s] w fun e w' => e = .returned (.bool (validB t n s)) ∧ Below w.heap.size w w' := by
  have HV := hid (valid_int (n := n) (s := s) h3 h4)
  have h1 : ¬ t = 1 := by omega
  have h2 : ¬ t = 2 := by omega
  by_cases hs : s.size = 0
  · obtain rfl := size_zero hs
    clear hs
    go_enter Tryz.func63, Tryz.ntmps63
    try (go_wp2_with (first | (go_at_call 64; refine (l10Integer_t t h3 h4 _).mono ?_; rintro e w' ⟨rfl, hw⟩; have hw2 := hw.symm; clear hw; subst hw2) | fail))
    go_quiet (first | (go_at_call 64; exact Calls.quiet_of_same (l10Integer_t t h3 h4 _)) | (go_at_call 95; exact Calls.quiet_of_same (into_n t n h3 h4 _)) | fail)
    go_wp2
    go_ret
    exact ⟨ret_bool (by rw [HV.out, Bool.eq_iff_iff]; simp; exact fun _ => rfl), alloc_drewN _ _ _⟩
  · have hs2 := notEmpty s (by omega)
    have HS : Hid (decide (s.size = 0) = false) := decide_eq_false hs
    clear hs
    go_enter Tryz.func63, Tryz.ntmps63
    try (go_wp2_with (first | (go_at_call 64; refine (l10Integer_t t h3 h4 _).mono ?_; rintro e w' ⟨rfl, hw⟩; have hw2 := hw.symm; clear hw; subst hw2) | fail))
    go_quiet (first | (go_at_call 64; exact Calls.quiet_of_same (l10Integer_t t h3 h4 _)) | fail)
    go_wp2
    go_ret
    exact ⟨ret_bool (by rw [HV.out, HS.out]; rfl), alloc_drewN _ _ _⟩
set_option maxHeartbeats 1000000 in
theorem specVV0 (t n : Int) (s : ByteArray) (h1 : t ≠ 1) (h2 : t ≠ 2) (h3 : ¬ (3 ≤ t ∧ t ≤ 10)) (w : World) :
    Calls Tryz.prog 63 #[val t n s] w fun e w' => e = .returned (.bool (validB t n s)) ∧ Below w.heap.size w w' := by
  have HV := hid (valid_out (n := n) (s := s) h1 h2 h3)
  have H3 := hid h3
  clear h3
  go_enter Tryz.func63, Tryz.ntmps63
  try (go_wp2_with (first | (go_at_call 64; refine (l10Integer_f t H3.out _).mono ?_; rintro e w' ⟨rfl, hw⟩; have hw2 := hw.symm; clear hw; subst hw2) | fail))
  try (go_quiet (first | (go_at_call 64; exact Calls.quiet_of_same (l10Integer_f t H3.out _)) | fail); go_wp2)
  go_ret
  exact ⟨ret_bool (by rw [HV.out]), by first | exact alloc_drewN _ _ _ | exact alloc_below _ _ | exact alloc_drew _ _⟩
theorem specVV (t n : Int) (s : ByteArray) (hn1 : -9223372036854775808 ≤ n) (hn2 : n ≤ 9223372036854775807) (w : World) :
    Calls Tryz.prog 63 #[val t n s] w fun e w' => e = .returned (.bool (validB t n s)) ∧ Below w.heap.size w w' := by
  by_cases h1 : t = 1
  · subst h1; exact specVV1 n s w
  · by_cases h2 : t = 2
    · subst h2; exact specVV2 n s w
    · by_cases h3 : 3 ≤ t ∧ t ≤ 10
      · exact specVV3 t n s h3.1 h3.2 hn1 hn2 w
      · exact specVV0 t n s h1 h2 h3 w
set_option maxHeartbeats 1000000 in
theorem implVV3 (t n : Int) (s : ByteArray) (h3 : 3 ≤ t) (h4 : t ≤ 10) (hn1 : -9223372036854775808 ≤ n) (hn2 : n ≤ 9223372036854775807) (w : World) :
    Calls Tryz.prog 83 #[val t n s] w fun e w' => e = .returned (.bool (validB t n s)) ∧ Below w.heap.size w w' := by
  have HV := hid (valid_int (n := n) (s := s) h3 h4)
  have h1 : ¬ t = 1 := by omega
  have h2 : ¬ t = 2 := by omega
  by_cases hs : s.size = 0
  · obtain rfl := size_zero hs
    clear hs
    go_enter Tryz.func83, Tryz.ntmps83
    try (go_wp2_with (first | (go_at_call 101; refine (millIsInteger_t t h3 h4 _).mono ?_; rintro e w' ⟨rfl, hw⟩; have hw2 := hw.symm; clear hw; subst hw2) | fail))
    go_quiet (first | (go_at_call 101; exact Calls.quiet_of_same (millIsInteger_t t h3 h4 _)) | (go_at_call 102; exact Calls.quiet_of_same (millInto_any t n h3 h4 hn1 hn2 _)) | fail)
    go_wp2
    go_ret
    exact ⟨ret_bool (by rw [HV.out, Bool.eq_iff_iff]; simp; exact fun _ => rfl), alloc_drewN _ _ _⟩
  · have hs2 := notEmpty s (by omega)
    have HS : Hid (decide (s.size = 0) = false) := decide_eq_false hs
    clear hs
    go_enter Tryz.func83, Tryz.ntmps83
    try (go_wp2_with (first | (go_at_call 101; refine (millIsInteger_t t h3 h4 _).mono ?_; rintro e w' ⟨rfl, hw⟩; have hw2 := hw.symm; clear hw; subst hw2) | fail))
    go_quiet (first | (go_at_call 101; exact Calls.quiet_of_same (millIsInteger_t t h3 h4 _)) | fail)
    go_wp2
    go_ret
    exact ⟨ret_bool (by rw [HV.out, HS.out]; rfl), alloc_drewN _ _ _⟩
set_option maxHeartbeats 1000000 in
theorem implVV0 (t n : Int) (s : ByteArray) (h1 : t ≠ 1) (h2 : t ≠ 2) (h3 : ¬ (3 ≤ t ∧ t ≤ 10)) (w : World) :
    Calls Tryz.prog 83 #[val t n s] w fun e w' => e = .returned (.bool (validB t n s)) ∧ Below w.heap.size w w' := by
  have HV := hid (valid_out (n := n) (s := s) h1 h2 h3)
  have H3 := hid h3
  clear h3
  go_enter Tryz.func83, Tryz.ntmps83
  try (go_wp2_with (first | (go_at_call 101; refine (millIsInteger_f t H3.out _).mono ?_; rintro e w' ⟨rfl, hw⟩; have hw2 := hw.symm; clear hw; subst hw2) | fail))
  try (go_quiet (first | (go_at_call 101; exact Calls.quiet_of_same (millIsInteger_f t H3.out _)) | fail); go_wp2)
  go_ret
  exact ⟨ret_bool (by rw [HV.out]), by first | exact alloc_drewN _ _ _ | exact alloc_below _ _ | exact alloc_drew _ _⟩
theorem implVV (t n : Int) (s : ByteArray) (hn1 : -9223372036854775808 ≤ n) (hn2 : n ≤ 9223372036854775807) (w : World) :
    Calls Tryz.prog 83 #[val t n s] w fun e w' => e = .returned (.bool (validB t n s)) ∧ Below w.heap.size w w' := by
  by_cases h1 : t = 1
  · subst h1; exact implVV1 n s w
  · by_cases h2 : t = 2
    · subst h2; exact implVV2 n s w
    · by_cases h3 : 3 ≤ t ∧ t ≤ 10
      · exact implVV3 t n s h3.1 h3.2 hn1 hn2 w
      · exact implVV0 t n s h1 h2 h3 w
end Go.Proofs.YtfedmbadhcdpdaaGreatDoor.V
