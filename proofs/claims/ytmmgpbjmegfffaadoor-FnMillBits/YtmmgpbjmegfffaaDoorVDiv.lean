import Derived.Test.YtmmgpbjmegfffaaDoorVBS1
/-! The model's quotient and rest. -/
namespace Go.Proofs.YtmmgpbjmegfffaaDoor.V
open Go.RowKit Go.Shelf
set_option maxRecDepth 20000
/-- Whether a number of a type is below 0, and its size. -/
def negT (t a : Int) : Bool := decide (7 ≤ t) && decide (a < 0)
def absT (t a : Int) : Int := if negT t a then -a else IntKind.u64.wrap a
theorem neg_wrap {a : Int} (h1 : -9223372036854775808 ≤ a) (h : a < 0) : IntKind.u64.wrap (-IntKind.u64.wrap a) = -a := by
  rw [IntKind.wrap_u64, IntKind.wrap_u64]; omega
theorem pos_wrap {a : Int} (h0 : 0 ≤ a) (h2 : a ≤ 9223372036854775807) : IntKind.u64.wrap a = a := by
  rw [IntKind.wrap_u64]; omega
set_option maxHeartbeats 1000000 in
theorem l13Abs_any (t a : Int) (h3 : 3 ≤ t) (h10 : t ≤ 10) (h1 : -9223372036854775808 ≤ a) (h2 : a ≤ 9223372036854775807) (w : World) :
    Calls Tryd.prog 33 #[.int .i64 t, .int .i64 a] w fun e w' => e = .returned (.tuple #[.int .u64 (absT t a), .bool (negT t a)]) ∧ Below w.heap.size w w' := by
  by_cases h7 : 7 ≤ t
  · have HS : Hid (∀ W, Calls Tryd.prog 32 #[.int .i64 t] W fun e w' => e = .returned (.bool true) ∧ w' = W) := fun W => by
      have := l10Signed_any t W
      rwa [show (decide (7 ≤ t) && decide (t ≤ 10)) = true by simp [h7, h10]] at this
    by_cases ha : a < 0
    · have HN : Hid (negT t a = true) := by show _ = _; simp [negT, h7, ha]
      have HA : Hid (absT t a = -a) := by show _ = _; unfold absT; rw [HN.out, if_pos rfl]
      have HW := hid (neg_wrap h1 ha)
      go_enter Tryd.func33, Tryd.ntmps33
      go_wp2_with (first | (go_at_call 32; refine (HS.out _).mono ?_; rintro e w' ⟨rfl, hw⟩; have hw2 := hw.symm; clear hw; subst hw2) | fail)
      exact bodyPost_ret (v := .tuple #[.int .u64 (IntKind.u64.wrap (-IntKind.u64.wrap a)), .bool true]) (by simp [results, Tryd.results33, go_sem]) rfl ⟨by rw [HA.out, HN.out, HW.out], Below.refl _ _⟩
    · have HN : Hid (negT t a = false) := by show _ = _; simp [negT, ha]
      have HA : Hid (absT t a = a) := by show _ = _; unfold absT; rw [HN.out, if_neg (by decide)]; exact pos_wrap (by omega) h2
      go_enter Tryd.func33, Tryd.ntmps33
      go_wp2_with (first | (go_at_call 32; refine (HS.out _).mono ?_; rintro e w' ⟨rfl, hw⟩; have hw2 := hw.symm; clear hw; subst hw2) | fail)
      exact bodyPost_ret (v := .tuple #[.int .u64 (absT t a), .bool (negT t a)]) (by rw [HA.out, HN.out]; simp [results, Tryd.results33, go_sem]) rfl ⟨rfl, Below.refl _ _⟩
  · have HS : Hid (∀ W, Calls Tryd.prog 32 #[.int .i64 t] W fun e w' => e = .returned (.bool false) ∧ w' = W) := fun W => by
      have := l10Signed_any t W
      rwa [show (decide (7 ≤ t) && decide (t ≤ 10)) = false by simp; omega] at this
    have HN : Hid (negT t a = false) := by show _ = _; simp [negT]; omega
    have HA : Hid (absT t a = IntKind.u64.wrap a) := by show _ = _; unfold absT; rw [HN.out, if_neg (by decide)]
    go_enter Tryd.func33, Tryd.ntmps33
    go_wp2_with (first | (go_at_call 32; refine (HS.out _).mono ?_; rintro e w' ⟨rfl, hw⟩; have hw2 := hw.symm; clear hw; subst hw2) | fail)
    exact bodyPost_ret (v := .tuple #[.int .u64 (absT t a), .bool (negT t a)]) (by rw [HA.out, HN.out]; simp [results, Tryd.results33, go_sem]) rfl ⟨rfl, Below.refl _ _⟩
theorem abs_kt {t a : Int} (h3 : 3 ≤ t) (h10 : t ≤ 10) (h : a = into t a) : absT t a = (((kT t).wrap a).natAbs : Int) ∧ negT t a = decide ((kT t).wrap a < 0) := by
  unfold absT negT
  by_cases h7 : 7 ≤ t
  · rw [kt_signed h7 h10 h]
    have hb : -9223372036854775808 ≤ a ∧ a ≤ 9223372036854775807 := by rw [h]; exact wr64 _
    by_cases ha : a < 0
    · simp [h7, ha]; omega
    · have e : IntKind.u64.wrap a = a := pos_wrap (by omega) hb.2
      simp [h7, ha, e]; omega
  · rw [kt_unsigned h3 (by omega) h]
    have := u64_bd a
    simp [h7]; omega
theorem Two.room0 {w W : World} {t n : Int} {s : ByteArray} (h : Two w t n s W) : W.frozen? ⟨w.heap.size, 0, none⟩ = false ∧ W.frozen? ⟨w.heap.size, 1, none⟩ = false ∧ W.frozen? ⟨w.heap.size, 2, none⟩ = false :=
  open_at h (by omega) (heap_old (heap_new w _))
theorem into_mneg (t x : Int) : into t (IntKind.u64.wrap (-x)) = into t (-x) := into_u t _
theorem quo_nat (t : Int) {p q : Int} {X Y : Nat} (hp : (p.natAbs) = X) (hq : q.natAbs = Y) : into t (p.tdiv q) = if decide (p < 0) = decide (q < 0) then into t ((X : Int) / Y) else into t (-((X : Int) / Y)) := by
  rw [tdiv_abs, hp, hq]
  by_cases h1 : p < 0 <;> by_cases h2 : q < 0 <;> simp [h1, h2]
theorem rem_nat {p q : Int} {X Y : Nat} (hp : (p.natAbs) = X) (hq : q.natAbs = Y) : p.tmod q = if p < 0 then -((X : Int) % Y) else (X : Int) % Y := by
  rw [tmod_abs, hp, hq]
  simp
set_option maxHeartbeats 2000000 in
theorem div_ff (t a b : Int) (X Y : Nat) (zq zr : Int) (_hX : (X : Int) ≤ 18446744073709551615) (hY : 0 < (Y : Int))
    (ha : ∀ W, Calls Tryd.prog 33 #[.int .i64 t, .int .i64 a] W fun e w' => e = .returned (.tuple #[.int .u64 (X : Int), .bool false]) ∧ Below W.heap.size W w')
    (hb : ∀ W, Calls Tryd.prog 33 #[.int .i64 t, .int .i64 b] W fun e w' => e = .returned (.tuple #[.int .u64 (Y : Int), .bool false]) ∧ Below W.heap.size W w')
    (hq : ∀ W, Calls Tryd.prog 16 #[.int .i64 t, .int .u64 (IntKind.u64.wrap ((X : Int) / Y))] W fun e w' => e = .returned (val t zq wNone) ∧ Below W.heap.size W w')
    (hr : ∀ W, Calls Tryd.prog 16 #[.int .i64 t, .int .u64 ((X : Int) % Y)] W fun e w' => e = .returned (val t zr wNone) ∧ Below W.heap.size W w') (w : World) :
    Calls Tryd.prog 19 #[.int .i64 t, .int .i64 a, .int .i64 b] w fun e w' => e = .returned (.tuple #[val t zq wNone, val t zr wNone]) ∧ Below w.heap.size w w' := by
  have HA := hid ha
  have HB := hid hb
  have HQ := hid hq
  have HR := hid hr
  clear ha hb hq hr
  have hY0 : ¬ (Y : Int) = 0 := by omega
  go_enter Tryd.func19, Tryd.ntmps19
  go_wp2_with fail
  refine (HA.out _).mono ?_
  rintro e w1 ⟨rfl, hb1⟩
  have HT1 := hid ((Two.start w 0 0 wNone).next hb1)
  clear hb1
  go_wp2_with fail
  refine (HB.out _).mono ?_
  rintro e w2 ⟨rfl, hb2⟩
  have HT2 := hid (HT1.out.next hb2)
  clear hb2
  go_wp2_with fail
  refine (HQ.out _).mono ?_
  rintro e w3 ⟨rfl, hb3⟩
  have HT3 := hid (HT2.out.next hb3)
  clear hb3
  go_wp2_with fail
  refine (HR.out _).mono ?_
  rintro e w4 ⟨rfl, hb4⟩
  have HT4 := hid (HT3.out.next hb4)
  clear hb4
  obtain ⟨x0, x1, x2⟩ := HT4.out.arg
  obtain ⟨r0, r1, r2⟩ := HT4.out.res
  obtain ⟨y0, y1, y2⟩ := HT4.out.room
  obtain ⟨z0, z1, z2⟩ := HT4.out.room0
  go_wp2
  exact bodyPost_ret (v := .tuple #[val t zq wNone, val t zr wNone]) (by simp [results, Tryd.results19, go_sem, r0, r1, r2, x0, x1, x2]) rfl ⟨rfl, setr (by omega) (setr (Nat.le_refl _) HT4.out.below _ _ _) _ _ _⟩
set_option maxHeartbeats 2000000 in
theorem div_ft (t a b : Int) (X Y : Nat) (zq zr : Int) (_hX : (X : Int) ≤ 18446744073709551615) (hY : 0 < (Y : Int))
    (ha : ∀ W, Calls Tryd.prog 33 #[.int .i64 t, .int .i64 a] W fun e w' => e = .returned (.tuple #[.int .u64 (X : Int), .bool false]) ∧ Below W.heap.size W w')
    (hb : ∀ W, Calls Tryd.prog 33 #[.int .i64 t, .int .i64 b] W fun e w' => e = .returned (.tuple #[.int .u64 (Y : Int), .bool true]) ∧ Below W.heap.size W w')
    (hq : ∀ W, Calls Tryd.prog 16 #[.int .i64 t, .int .u64 (IntKind.u64.wrap (-IntKind.u64.wrap ((X : Int) / Y)))] W fun e w' => e = .returned (val t zq wNone) ∧ Below W.heap.size W w')
    (hr : ∀ W, Calls Tryd.prog 16 #[.int .i64 t, .int .u64 ((X : Int) % Y)] W fun e w' => e = .returned (val t zr wNone) ∧ Below W.heap.size W w') (w : World) :
    Calls Tryd.prog 19 #[.int .i64 t, .int .i64 a, .int .i64 b] w fun e w' => e = .returned (.tuple #[val t zq wNone, val t zr wNone]) ∧ Below w.heap.size w w' := by
  have HA := hid ha
  have HB := hid hb
  have HQ := hid hq
  have HR := hid hr
  clear ha hb hq hr
  have hY0 : ¬ (Y : Int) = 0 := by omega
  go_enter Tryd.func19, Tryd.ntmps19
  go_wp2_with fail
  refine (HA.out _).mono ?_
  rintro e w1 ⟨rfl, hb1⟩
  have HT1 := hid ((Two.start w 0 0 wNone).next hb1)
  clear hb1
  go_wp2_with fail
  refine (HB.out _).mono ?_
  rintro e w2 ⟨rfl, hb2⟩
  have HT2 := hid (HT1.out.next hb2)
  clear hb2
  go_wp2_with fail
  refine (HQ.out _).mono ?_
  rintro e w3 ⟨rfl, hb3⟩
  have HT3 := hid (HT2.out.next hb3)
  clear hb3
  go_wp2_with fail
  refine (HR.out _).mono ?_
  rintro e w4 ⟨rfl, hb4⟩
  have HT4 := hid (HT3.out.next hb4)
  clear hb4
  obtain ⟨x0, x1, x2⟩ := HT4.out.arg
  obtain ⟨r0, r1, r2⟩ := HT4.out.res
  obtain ⟨y0, y1, y2⟩ := HT4.out.room
  obtain ⟨z0, z1, z2⟩ := HT4.out.room0
  go_wp2
  exact bodyPost_ret (v := .tuple #[val t zq wNone, val t zr wNone]) (by simp [results, Tryd.results19, go_sem, r0, r1, r2, x0, x1, x2]) rfl ⟨rfl, setr (by omega) (setr (Nat.le_refl _) HT4.out.below _ _ _) _ _ _⟩
set_option maxHeartbeats 2000000 in
theorem div_tf (t a b : Int) (X Y : Nat) (zq zr : Int) (_hX : (X : Int) ≤ 18446744073709551615) (hY : 0 < (Y : Int))
    (ha : ∀ W, Calls Tryd.prog 33 #[.int .i64 t, .int .i64 a] W fun e w' => e = .returned (.tuple #[.int .u64 (X : Int), .bool true]) ∧ Below W.heap.size W w')
    (hb : ∀ W, Calls Tryd.prog 33 #[.int .i64 t, .int .i64 b] W fun e w' => e = .returned (.tuple #[.int .u64 (Y : Int), .bool false]) ∧ Below W.heap.size W w')
    (hq : ∀ W, Calls Tryd.prog 16 #[.int .i64 t, .int .u64 (IntKind.u64.wrap (-IntKind.u64.wrap ((X : Int) / Y)))] W fun e w' => e = .returned (val t zq wNone) ∧ Below W.heap.size W w')
    (hr : ∀ W, Calls Tryd.prog 16 #[.int .i64 t, .int .u64 (IntKind.u64.wrap (-((X : Int) % Y)))] W fun e w' => e = .returned (val t zr wNone) ∧ Below W.heap.size W w') (w : World) :
    Calls Tryd.prog 19 #[.int .i64 t, .int .i64 a, .int .i64 b] w fun e w' => e = .returned (.tuple #[val t zq wNone, val t zr wNone]) ∧ Below w.heap.size w w' := by
  have HA := hid ha
  have HB := hid hb
  have HQ := hid hq
  have HR := hid hr
  clear ha hb hq hr
  have hY0 : ¬ (Y : Int) = 0 := by omega
  go_enter Tryd.func19, Tryd.ntmps19
  go_wp2_with fail
  refine (HA.out _).mono ?_
  rintro e w1 ⟨rfl, hb1⟩
  have HT1 := hid ((Two.start w 0 0 wNone).next hb1)
  clear hb1
  go_wp2_with fail
  refine (HB.out _).mono ?_
  rintro e w2 ⟨rfl, hb2⟩
  have HT2 := hid (HT1.out.next hb2)
  clear hb2
  go_wp2_with fail
  refine (HQ.out _).mono ?_
  rintro e w3 ⟨rfl, hb3⟩
  have HT3 := hid (HT2.out.next hb3)
  clear hb3
  go_wp2_with fail
  refine (HR.out _).mono ?_
  rintro e w4 ⟨rfl, hb4⟩
  have HT4 := hid (HT3.out.next hb4)
  clear hb4
  obtain ⟨x0, x1, x2⟩ := HT4.out.arg
  obtain ⟨r0, r1, r2⟩ := HT4.out.res
  obtain ⟨y0, y1, y2⟩ := HT4.out.room
  obtain ⟨z0, z1, z2⟩ := HT4.out.room0
  go_wp2
  exact bodyPost_ret (v := .tuple #[val t zq wNone, val t zr wNone]) (by simp [results, Tryd.results19, go_sem, r0, r1, r2, x0, x1, x2]) rfl ⟨rfl, setr (by omega) (setr (Nat.le_refl _) HT4.out.below _ _ _) _ _ _⟩
set_option maxHeartbeats 2000000 in
theorem div_tt (t a b : Int) (X Y : Nat) (zq zr : Int) (_hX : (X : Int) ≤ 18446744073709551615) (hY : 0 < (Y : Int))
    (ha : ∀ W, Calls Tryd.prog 33 #[.int .i64 t, .int .i64 a] W fun e w' => e = .returned (.tuple #[.int .u64 (X : Int), .bool true]) ∧ Below W.heap.size W w')
    (hb : ∀ W, Calls Tryd.prog 33 #[.int .i64 t, .int .i64 b] W fun e w' => e = .returned (.tuple #[.int .u64 (Y : Int), .bool true]) ∧ Below W.heap.size W w')
    (hq : ∀ W, Calls Tryd.prog 16 #[.int .i64 t, .int .u64 (IntKind.u64.wrap ((X : Int) / Y))] W fun e w' => e = .returned (val t zq wNone) ∧ Below W.heap.size W w')
    (hr : ∀ W, Calls Tryd.prog 16 #[.int .i64 t, .int .u64 (IntKind.u64.wrap (-((X : Int) % Y)))] W fun e w' => e = .returned (val t zr wNone) ∧ Below W.heap.size W w') (w : World) :
    Calls Tryd.prog 19 #[.int .i64 t, .int .i64 a, .int .i64 b] w fun e w' => e = .returned (.tuple #[val t zq wNone, val t zr wNone]) ∧ Below w.heap.size w w' := by
  have HA := hid ha
  have HB := hid hb
  have HQ := hid hq
  have HR := hid hr
  clear ha hb hq hr
  have hY0 : ¬ (Y : Int) = 0 := by omega
  go_enter Tryd.func19, Tryd.ntmps19
  go_wp2_with fail
  refine (HA.out _).mono ?_
  rintro e w1 ⟨rfl, hb1⟩
  have HT1 := hid ((Two.start w 0 0 wNone).next hb1)
  clear hb1
  go_wp2_with fail
  refine (HB.out _).mono ?_
  rintro e w2 ⟨rfl, hb2⟩
  have HT2 := hid (HT1.out.next hb2)
  clear hb2
  go_wp2_with fail
  refine (HQ.out _).mono ?_
  rintro e w3 ⟨rfl, hb3⟩
  have HT3 := hid (HT2.out.next hb3)
  clear hb3
  go_wp2_with fail
  refine (HR.out _).mono ?_
  rintro e w4 ⟨rfl, hb4⟩
  have HT4 := hid (HT3.out.next hb4)
  clear hb4
  obtain ⟨x0, x1, x2⟩ := HT4.out.arg
  obtain ⟨r0, r1, r2⟩ := HT4.out.res
  obtain ⟨y0, y1, y2⟩ := HT4.out.room
  obtain ⟨z0, z1, z2⟩ := HT4.out.room0
  go_wp2
  exact bodyPost_ret (v := .tuple #[val t zq wNone, val t zr wNone]) (by simp [results, Tryd.results19, go_sem, r0, r1, r2, x0, x1, x2]) rfl ⟨rfl, setr (by omega) (setr (Nat.le_refl _) HT4.out.below _ _ _) _ _ _⟩
theorem num_pos (t x : Int) (h3 : 3 ≤ t) (h10 : t ≤ 10) (z : Int) (hz : into t x = z) (W : World) : Calls Tryd.prog 16 #[.int .i64 t, .int .u64 (IntKind.u64.wrap x)] W fun e w' => e = .returned (val t z wNone) ∧ Below W.heap.size W w' := by
  have := l13Num_any t _ h3 h10 (u64_bd x).1 (u64_bd x).2 W
  rwa [into_u, hz] at this
theorem num_neg (t x : Int) (h3 : 3 ≤ t) (h10 : t ≤ 10) (z : Int) (hz : into t (-x) = z) (W : World) : Calls Tryd.prog 16 #[.int .i64 t, .int .u64 (IntKind.u64.wrap (-IntKind.u64.wrap x))] W fun e w' => e = .returned (val t z wNone) ∧ Below W.heap.size W w' := by
  have := l13Num_any t _ h3 h10 (u64_bd (-IntKind.u64.wrap x)).1 (u64_bd (-IntKind.u64.wrap x)).2 W
  have e : into t (-IntKind.u64.wrap x) = into t (-x) := by
    refine intoK_congr _ ?_
    have := sub_congr (2 ^ (kT t).bits) 0 (IntKind.u64.wrap x) 0 x rfl (u64_emod _ x)
    simpa using this
  rwa [into_u, e, hz] at this
theorem num_rem (t x : Int) (h3 : 3 ≤ t) (h10 : t ≤ 10) (h0 : 0 ≤ x) (h1 : x ≤ 18446744073709551615) (z : Int) (hz : into t x = z) (W : World) : Calls Tryd.prog 16 #[.int .i64 t, .int .u64 x] W fun e w' => e = .returned (val t z wNone) ∧ Below W.heap.size W w' := by
  have := l13Num_any t _ h3 h10 h0 h1 W
  rwa [hz] at this
theorem wr_kt8 (n : Int) : -128 ≤ IntKind.i8.wrap n ∧ IntKind.i8.wrap n ≤ 127 := by
  simp [IntKind.wrap, IntKind.bits, IntKind.signed] <;> omega
theorem wr_kt16 (n : Int) : -32768 ≤ IntKind.i16.wrap n ∧ IntKind.i16.wrap n ≤ 32767 := by
  simp [IntKind.wrap, IntKind.bits, IntKind.signed] <;> omega
theorem wrap_in_kt {t p q : Int} (h3 : 3 ≤ t) (h10 : t ≤ 10) : (kT t).wrap (((kT t).wrap p).tmod q) = ((kT t).wrap p).tmod q := by
  have hb := tmod_bd ((kT t).wrap p) q
  obtain rfl | rfl | rfl | rfl | rfl | rfl | rfl | rfl := typ8 h3 h10
  all_goals simp only [kT3, kT4, kT5, kT6, kT7, kT8, kT9, kT10] at *
  · have := IntKind.wrap_u8 p; rw [IntWalk.u8_in]; omega
  · have := IntKind.wrap_u16 p; rw [IntWalk.u16_in]; omega
  · have := IntKind.wrap_u32 p; rw [IntWalk.u32_in]; omega
  · have := IntKind.wrap_u64 p; rw [IntWalk.u64_in]; omega
  · have := wr_kt8 p; rw [IntWalk.i8_in]; omega
  · have := wr_kt16 p; rw [IntWalk.i16_in]; omega
  · have := IntKind.wrap_i32 p; rw [IntWalk.i32_in]; omega
  · have := wr64 p; rw [IntWalk.i64_in]; omega
set_option maxHeartbeats 2000000 in
theorem l13Divide_any (t a b : Int) (h3 : 3 ≤ t) (h10 : t ≤ 10) (ha : a = into t a) (hb : b = into t b) (h0 : (kT t).wrap b ≠ 0) (w : World) :
    Calls Tryd.prog 19 #[.int .i64 t, .int .i64 a, .int .i64 b] w fun e w' => e = .returned (.tuple #[val t (cntT t 14 a b) wNone, val t (cntT t 15 a b) wNone]) ∧ Below w.heap.size w w' := by
  have bd : ∀ c : Int, c = into t c → -9223372036854775808 ≤ c ∧ c ≤ 9223372036854775807 := fun c hc => by rw [hc]; exact wr64 _
  obtain ⟨a1, a2⟩ := abs_kt h3 h10 ha
  obtain ⟨b1, b2⟩ := abs_kt h3 h10 hb
  have hA := fun W => l13Abs_any t a h3 h10 (bd a ha).1 (bd a ha).2 W
  have hB := fun W => l13Abs_any t b h3 h10 (bd b hb).1 (bd b hb).2 W
  have e14 : cntT t 14 a b = into t (((kT t).wrap a).tdiv ((kT t).wrap b)) := rfl
  have e15 : cntT t 15 a b = into t (((kT t).wrap a).tmod ((kT t).wrap b)) := by
    show IntKind.i64.wrap _ = intoK _ _
    unfold intoK
    rw [wrap_in_kt h3 h10]
  have xb : absT t a ≤ 18446744073709551615 := by
    unfold absT
    split
    · have := (bd a ha).1; omega
    · exact (u64_bd a).2
  rw [e14, e15]
  generalize hX : ((kT t).wrap a).natAbs = X at *
  generalize hY : ((kT t).wrap b).natAbs = Y at *
  have hY0 : 0 < (Y : Int) := by omega
  have q := quo_nat t hX hY
  have r := rem_nat hX hY
  have hr0 : 0 ≤ (X : Int) % Y := Int.emod_nonneg _ (by omega)
  have hr1 : (X : Int) % Y ≤ 18446744073709551615 := by
    have m := Nat.mod_le X Y
    have e : (X : Int) % Y = ((X % Y : Nat) : Int) := by simp
    omega
  rw [a1, a2] at hA
  rw [b1, b2] at hB
  rw [a1] at xb
  by_cases s1 : (kT t).wrap a < 0 <;> by_cases s2 : (kT t).wrap b < 0
  · rw [show decide ((kT t).wrap a < 0) = true from decide_eq_true s1] at hA q
    rw [show decide ((kT t).wrap b < 0) = true from decide_eq_true s2] at hB q
    rw [if_pos rfl] at q; rw [if_pos s1] at r
    refine div_tt t a b X Y _ _ xb hY0 hA hB (num_pos t _ h3 h10 _ q.symm) (fun W => num_pos t _ h3 h10 _ (by rw [r]) W) w
  · rw [show decide ((kT t).wrap a < 0) = true from decide_eq_true s1] at hA q
    rw [show decide ((kT t).wrap b < 0) = false from decide_eq_false s2] at hB q
    rw [if_neg (by decide)] at q; rw [if_pos s1] at r
    refine div_tf t a b X Y _ _ xb hY0 hA hB (num_neg t _ h3 h10 _ q.symm) (fun W => num_pos t _ h3 h10 _ (by rw [r]) W) w
  · rw [show decide ((kT t).wrap a < 0) = false from decide_eq_false s1] at hA q
    rw [show decide ((kT t).wrap b < 0) = true from decide_eq_true s2] at hB q
    rw [if_neg (by decide)] at q; rw [if_neg s1] at r
    refine div_ft t a b X Y _ _ xb hY0 hA hB (num_neg t _ h3 h10 _ q.symm) (fun W => num_rem t _ h3 h10 hr0 hr1 _ (by rw [r]) W) w
  · rw [show decide ((kT t).wrap a < 0) = false from decide_eq_false s1] at hA q
    rw [show decide ((kT t).wrap b < 0) = false from decide_eq_false s2] at hB q
    rw [if_pos rfl] at q; rw [if_neg s1] at r
    refine div_ff t a b X Y _ _ xb hY0 hA hB (num_pos t _ h3 h10 _ q.symm) (fun W => num_rem t _ h3 h10 hr0 hr1 _ (by rw [r]) W) w
end Go.Proofs.YtmmgpbjmegfffaaDoor.V
