import Derived.Test.YtcjgmmiafflgnaaDoorVBox
import Derived.Test.YtcjgmmiafflgnaaDoorVInts
import Derived.Test.YtcjgmmiafflgnaaDoorVM2
/-! Printed by gen_vun.py. -/
namespace Go.Proofs.YtcjgmmiafflgnaaDoor.V
open Go.RowKit Go.Shelf
set_option maxRecDepth 20000
/-- Whether a mark with one kid takes a value. -/
def unOk (op t n : Int) (s : ByteArray) : Bool := validB t n s && (decide (1 ≤ op) && decide (op ≤ 3)) && decide (unT op t ≠ 0)
/-- What it gives. -/
def unN (op t n : Int) : Int := if op = 1 then cntT t 10 0 n else if op = 2 then (if decide (n = 0) then 1 else 0) else cntT t 12 n (-1)
set_option maxHeartbeats 2000000 in
theorem specUn_b1 (op t n : Int) (s : ByteArray) (hv : validB t n s = false) (hn1 : -9223372036854775808 ≤ n) (hn2 : n ≤ 9223372036854775807) (w : World) :
    Calls Tryd.prog 8 #[.int .i64 op, val t n s] w fun e w' => e = .returned (ans 0 0 wNone wType) ∧ Below w.heap.size w w' := by
  have HV : Hid (∀ W, Calls Tryd.prog 17 #[val t n s] W fun e w' => e = .returned (.bool false) ∧ Below W.heap.size W w') := fun W => by
    have := specVV t n s hn1 hn2 W
    rwa [hv] at this
  clear hv
  go_enter Tryd.func8, Tryd.ntmps8
  go_wp2_with fail
  refine (HV.out _).mono ?_
  rintro e w1 ⟨rfl, hb1⟩
  have HB1 := hid ((Two.start w t n s).next hb1)
  obtain ⟨x0, x1, x2⟩ := HB1.out.arg
  obtain ⟨r0, r1, r2⟩ := HB1.out.res
  obtain ⟨y0, y1, y2⟩ := HB1.out.room
  clear hb1
  go_wp2
  exact bodyPost_ret (v := ans 0 0 wNone wType) (by simp [results, Tryd.results8, go_sem, r0, r1, r2, wType]) rfl ⟨rfl, setr (by omega) HB1.out.below _ _ _⟩
set_option maxHeartbeats 2000000 in
theorem specUn_b2 (op t n : Int) (s : ByteArray) (hv : validB t n s = true) (ho : op < 1) (hn1 : -9223372036854775808 ≤ n) (hn2 : n ≤ 9223372036854775807) (w : World) :
    Calls Tryd.prog 8 #[.int .i64 op, val t n s] w fun e w' => e = .returned (ans 0 0 wNone wType) ∧ Below w.heap.size w w' := by
  have HV : Hid (∀ W, Calls Tryd.prog 17 #[val t n s] W fun e w' => e = .returned (.bool true) ∧ Below W.heap.size W w') := fun W => by
    have := specVV t n s hn1 hn2 W
    rwa [hv] at this
  clear hv
  go_enter Tryd.func8, Tryd.ntmps8
  go_wp2_with fail
  refine (HV.out _).mono ?_
  rintro e w1 ⟨rfl, hb1⟩
  have HB1 := hid ((Two.start w t n s).next hb1)
  obtain ⟨x0, x1, x2⟩ := HB1.out.arg
  obtain ⟨r0, r1, r2⟩ := HB1.out.res
  obtain ⟨y0, y1, y2⟩ := HB1.out.room
  clear hb1
  go_wp2
  exact bodyPost_ret (v := ans 0 0 wNone wType) (by simp [results, Tryd.results8, go_sem, r0, r1, r2, wType]) rfl ⟨rfl, setr (by omega) HB1.out.below _ _ _⟩
set_option maxHeartbeats 2000000 in
theorem specUn_b3 (op t n : Int) (s : ByteArray) (hv : validB t n s = true) (ho : 3 < op) (hn1 : -9223372036854775808 ≤ n) (hn2 : n ≤ 9223372036854775807) (w : World) :
    Calls Tryd.prog 8 #[.int .i64 op, val t n s] w fun e w' => e = .returned (ans 0 0 wNone wType) ∧ Below w.heap.size w w' := by
  have HV : Hid (∀ W, Calls Tryd.prog 17 #[val t n s] W fun e w' => e = .returned (.bool true) ∧ Below W.heap.size W w') := fun W => by
    have := specVV t n s hn1 hn2 W
    rwa [hv] at this
  have ho1 : ¬ op < 1 := by omega
  clear hv
  go_enter Tryd.func8, Tryd.ntmps8
  go_wp2_with fail
  refine (HV.out _).mono ?_
  rintro e w1 ⟨rfl, hb1⟩
  have HB1 := hid ((Two.start w t n s).next hb1)
  obtain ⟨x0, x1, x2⟩ := HB1.out.arg
  obtain ⟨r0, r1, r2⟩ := HB1.out.res
  obtain ⟨y0, y1, y2⟩ := HB1.out.room
  clear hb1
  go_wp2
  exact bodyPost_ret (v := ans 0 0 wNone wType) (by simp [results, Tryd.results8, go_sem, r0, r1, r2, wType]) rfl ⟨rfl, setr (by omega) HB1.out.below _ _ _⟩
set_option maxHeartbeats 2000000 in
theorem specUn_b4 (op t n : Int) (s : ByteArray) (hv : validB t n s = true) (h1 : 1 ≤ op) (h2 : op ≤ 3) (hu : unT op t = 0) (hn1 : -9223372036854775808 ≤ n) (hn2 : n ≤ 9223372036854775807) (w : World) :
    Calls Tryd.prog 8 #[.int .i64 op, val t n s] w fun e w' => e = .returned (ans 0 0 wNone wType) ∧ Below w.heap.size w w' := by
  have HV : Hid (∀ W, Calls Tryd.prog 17 #[val t n s] W fun e w' => e = .returned (.bool true) ∧ Below W.heap.size W w') := fun W => by
    have := specVV t n s hn1 hn2 W
    rwa [hv] at this
  have HU : Hid (∀ W, Calls Tryd.prog 19 #[.int .i64 op, .int .i64 t] W fun e w' => e = .returned (.int .i64 0) ∧ w' = W) := fun W => by
    have := l12Un_any op t W
    rwa [show unT op t = 0 from hu] at this
  clear hv hu
  go_enter Tryd.func8, Tryd.ntmps8
  go_wp2_with fail
  refine (HV.out _).mono ?_
  rintro e w1 ⟨rfl, hb1⟩
  have HB1 := hid ((Two.start w t n s).next hb1)
  obtain ⟨x0, x1, x2⟩ := HB1.out.arg
  obtain ⟨r0, r1, r2⟩ := HB1.out.res
  obtain ⟨y0, y1, y2⟩ := HB1.out.room
  clear hb1
  go_wp2_with (first | (go_at_call 19; refine (HU.out _).mono ?_; rintro e w' ⟨rfl, hw⟩; have hw2 := hw.symm; clear hw; subst hw2) | fail)
  exact bodyPost_ret (v := ans 0 0 wNone wType) (by simp [results, Tryd.results8, go_sem, r0, r1, r2, wType]) rfl ⟨rfl, setr (by omega) HB1.out.below _ _ _⟩
set_option maxHeartbeats 2000000 in
theorem specUn_1 (t n : Int) (s : ByteArray) (hv : validB t n s = true) (h3 : 3 ≤ t) (h4 : t ≤ 10) (hn1 : -9223372036854775808 ≤ n) (hn2 : n ≤ 9223372036854775807) (w : World) :
    Calls Tryd.prog 8 #[.int .i64 1, val t n s] w fun e w' => e = .returned (ans t (cntT t 10 0 n) wNone wNone) ∧ Below w.heap.size w w' := by
  have HV : Hid (∀ W, Calls Tryd.prog 17 #[val t n s] W fun e w' => e = .returned (.bool true) ∧ Below W.heap.size W w') := fun W => by
    have := specVV t n s hn1 hn2 W
    rwa [hv] at this
  have HU : Hid (∀ W, Calls Tryd.prog 19 #[.int .i64 1, .int .i64 t] W fun e w' => e = .returned (.int .i64 t) ∧ w' = W) := fun W => by
    have := l12Un_any 1 t W
    rwa [show unT 1 t = t from by simp [unT, h3, h4]] at this
  have HN : Hid (∀ W, Calls Tryd.prog 20 #[.int .i64 t, .int .u64 (IntKind.u64.wrap (-IntKind.u64.wrap n))] W fun e w' => e = .returned (val t (cntT t 10 0 n) wNone) ∧ Below W.heap.size W w') := fun W => by
    have := l13Num_any t (IntKind.u64.wrap (-IntKind.u64.wrap n)) h3 h4 (u64_bd _).1 (u64_bd _).2 W
    rwa [spec_neg] at this
  generalize cntT t 10 0 n = z at *
  clear hv
  go_enter Tryd.func8, Tryd.ntmps8
  go_wp2_with fail
  refine (HV.out _).mono ?_
  rintro e w1 ⟨rfl, hb1⟩
  have HB1 := hid ((Two.start w t n s).next hb1)
  obtain ⟨x0, x1, x2⟩ := HB1.out.arg
  obtain ⟨r0, r1, r2⟩ := HB1.out.res
  obtain ⟨y0, y1, y2⟩ := HB1.out.room
  clear hb1
  go_wp2_with (first | (go_at_call 19; refine (HU.out _).mono ?_; rintro e w' ⟨rfl, hw⟩; have hw2 := hw.symm; clear hw; subst hw2) | fail)
  refine (HN.out _).mono ?_
  rintro e w2 ⟨rfl, hb2⟩
  have HB2 := hid (HB1.out.next hb2)
  clear r0 r1 r2 y0 y1 y2 x0 x1 x2 hb2
  obtain ⟨r0, r1, r2⟩ := HB2.out.res
  obtain ⟨y0, y1, y2⟩ := HB2.out.room
  go_wp2
  exact bodyPost_ret (v := ans t z wNone wNone) (by simp [results, Tryd.results8, go_sem, r0, r1, r2]) rfl ⟨rfl, setr (by omega) HB2.out.below _ _ _⟩
set_option maxHeartbeats 2000000 in
theorem specUn_3 (t n : Int) (s : ByteArray) (hv : validB t n s = true) (h3 : 3 ≤ t) (h4 : t ≤ 10) (hn1 : -9223372036854775808 ≤ n) (hn2 : n ≤ 9223372036854775807) (w : World) :
    Calls Tryd.prog 8 #[.int .i64 3, val t n s] w fun e w' => e = .returned (ans t (cntT t 12 n (-1)) wNone wNone) ∧ Below w.heap.size w w' := by
  have HV : Hid (∀ W, Calls Tryd.prog 17 #[val t n s] W fun e w' => e = .returned (.bool true) ∧ Below W.heap.size W w') := fun W => by
    have := specVV t n s hn1 hn2 W
    rwa [hv] at this
  have HU : Hid (∀ W, Calls Tryd.prog 19 #[.int .i64 3, .int .i64 t] W fun e w' => e = .returned (.int .i64 t) ∧ w' = W) := fun W => by
    have := l12Un_any 3 t W
    rwa [show unT 3 t = t from by simp [unT, h3, h4]] at this
  have HN : Hid (∀ W, Calls Tryd.prog 20 #[.int .i64 t, .int .u64 (bits BinOp.xor IntKind.u64 IntKind.u64.max (IntKind.u64.wrap n))] W fun e w' => e = .returned (val t (cntT t 12 n (-1)) wNone) ∧ Below W.heap.size W w') := fun W => by
    have := l13Num_any t (bits BinOp.xor IntKind.u64 IntKind.u64.max (IntKind.u64.wrap n)) h3 h4 (bits_bd _ _ _).1 (bits_bd _ _ _).2 W
    rwa [spec_inv] at this
  generalize cntT t 12 n (-1) = z at *
  clear hv
  go_enter Tryd.func8, Tryd.ntmps8
  go_wp2_with fail
  refine (HV.out _).mono ?_
  rintro e w1 ⟨rfl, hb1⟩
  have HB1 := hid ((Two.start w t n s).next hb1)
  obtain ⟨x0, x1, x2⟩ := HB1.out.arg
  obtain ⟨r0, r1, r2⟩ := HB1.out.res
  obtain ⟨y0, y1, y2⟩ := HB1.out.room
  clear hb1
  go_wp2_with (first | (go_at_call 19; refine (HU.out _).mono ?_; rintro e w' ⟨rfl, hw⟩; have hw2 := hw.symm; clear hw; subst hw2) | fail)
  refine (HN.out _).mono ?_
  rintro e w2 ⟨rfl, hb2⟩
  have HB2 := hid (HB1.out.next hb2)
  clear r0 r1 r2 y0 y1 y2 x0 x1 x2 hb2
  obtain ⟨r0, r1, r2⟩ := HB2.out.res
  obtain ⟨y0, y1, y2⟩ := HB2.out.room
  go_wp2
  exact bodyPost_ret (v := ans t z wNone wNone) (by simp [results, Tryd.results8, go_sem, r0, r1, r2]) rfl ⟨rfl, setr (by omega) HB2.out.below _ _ _⟩
set_option maxHeartbeats 2000000 in
theorem specUn_2_0 (s : ByteArray) (hv : validB 1 0 s = true) (w : World) :
    Calls Tryd.prog 8 #[.int .i64 2, val 1 0 s] w fun e w' => e = .returned (ans 1 1 wNone wNone) ∧ Below w.heap.size w w' := by
  have HV : Hid (∀ W, Calls Tryd.prog 17 #[val 1 0 s] W fun e w' => e = .returned (.bool true) ∧ Below W.heap.size W w') := fun W => by
    have := specVV 1 0 s (by decide) (by decide) W
    rwa [hv] at this
  have HU : Hid (∀ W, Calls Tryd.prog 19 #[.int .i64 2, .int .i64 1] W fun e w' => e = .returned (.int .i64 1) ∧ w' = W) := fun W => by
    have := l12Un_any 2 1 W
    rwa [show unT 2 1 = 1 from rfl] at this
  clear hv
  go_enter Tryd.func8, Tryd.ntmps8
  go_wp2_with fail
  refine (HV.out _).mono ?_
  rintro e w1 ⟨rfl, hb1⟩
  have HB1 := hid ((Two.start w 1 0 s).next hb1)
  obtain ⟨x0, x1, x2⟩ := HB1.out.arg
  obtain ⟨r0, r1, r2⟩ := HB1.out.res
  obtain ⟨y0, y1, y2⟩ := HB1.out.room
  clear hb1
  go_wp2_with (first | (go_at_call 19; refine (HU.out _).mono ?_; rintro e w' ⟨rfl, hw⟩; have hw2 := hw.symm; clear hw; subst hw2) | fail)
  refine (l13Bool_any true _).mono ?_
  rintro e w2 ⟨rfl, hb2⟩
  have HB2 := hid (HB1.out.next hb2)
  clear r0 r1 r2 y0 y1 y2 x0 x1 x2 hb2
  obtain ⟨r0, r1, r2⟩ := HB2.out.res
  obtain ⟨y0, y1, y2⟩ := HB2.out.room
  go_wp2
  exact bodyPost_ret (v := ans 1 1 wNone wNone) (by simp [results, Tryd.results8, go_sem, r0, r1, r2]) rfl ⟨rfl, setr (by omega) HB2.out.below _ _ _⟩
set_option maxHeartbeats 2000000 in
theorem specUn_2_1 (s : ByteArray) (hv : validB 1 1 s = true) (w : World) :
    Calls Tryd.prog 8 #[.int .i64 2, val 1 1 s] w fun e w' => e = .returned (ans 1 0 wNone wNone) ∧ Below w.heap.size w w' := by
  have HV : Hid (∀ W, Calls Tryd.prog 17 #[val 1 1 s] W fun e w' => e = .returned (.bool true) ∧ Below W.heap.size W w') := fun W => by
    have := specVV 1 1 s (by decide) (by decide) W
    rwa [hv] at this
  have HU : Hid (∀ W, Calls Tryd.prog 19 #[.int .i64 2, .int .i64 1] W fun e w' => e = .returned (.int .i64 1) ∧ w' = W) := fun W => by
    have := l12Un_any 2 1 W
    rwa [show unT 2 1 = 1 from rfl] at this
  clear hv
  go_enter Tryd.func8, Tryd.ntmps8
  go_wp2_with fail
  refine (HV.out _).mono ?_
  rintro e w1 ⟨rfl, hb1⟩
  have HB1 := hid ((Two.start w 1 1 s).next hb1)
  obtain ⟨x0, x1, x2⟩ := HB1.out.arg
  obtain ⟨r0, r1, r2⟩ := HB1.out.res
  obtain ⟨y0, y1, y2⟩ := HB1.out.room
  clear hb1
  go_wp2_with (first | (go_at_call 19; refine (HU.out _).mono ?_; rintro e w' ⟨rfl, hw⟩; have hw2 := hw.symm; clear hw; subst hw2) | fail)
  refine (l13Bool_any false _).mono ?_
  rintro e w2 ⟨rfl, hb2⟩
  have HB2 := hid (HB1.out.next hb2)
  clear r0 r1 r2 y0 y1 y2 x0 x1 x2 hb2
  obtain ⟨r0, r1, r2⟩ := HB2.out.res
  obtain ⟨y0, y1, y2⟩ := HB2.out.room
  go_wp2
  exact bodyPost_ret (v := ans 1 0 wNone wNone) (by simp [results, Tryd.results8, go_sem, r0, r1, r2]) rfl ⟨rfl, setr (by omega) HB2.out.below _ _ _⟩
theorem un_cases (op : Int) : op = 1 ∨ op = 2 ∨ op = 3 ∨ op < 1 ∨ 3 < op := by omega
/-- What is answered. -/
abbrev unR (op t n : Int) (s : ByteArray) : Value := if unOk op t n s then ans t (unN op t n) wNone wNone else ans 0 0 wNone wType
theorem unT_int {op t : Int} (h : op ≠ 2) (hu : unT op t ≠ 0) : 3 ≤ t ∧ t ≤ 10 := by
  unfold unT at hu
  split at hu
  · omega
  · exact absurd rfl hu
theorem unT_bool {t : Int} (hu : unT 2 t ≠ 0) : t = 1 := by
  unfold unT at hu
  split at hu
  · omega
  · exact absurd rfl hu
theorem valid_bool {n : Int} {s : ByteArray} (h : validB 1 n s = true) : n = 0 ∨ n = 1 := by
  simp [validB] at h
  exact h.2
theorem unOk_f {op t n : Int} {s : ByteArray} (h : validB t n s = false ∨ op < 1 ∨ 3 < op ∨ unT op t = 0) : unOk op t n s = false := by
  unfold unOk
  rcases h with h | h | h | h
  · rw [h]; rfl
  · rw [show decide (1 ≤ op) = false from decide_eq_false (by omega)]; simp
  · rw [show decide (op ≤ 3) = false from decide_eq_false (by omega)]; simp
  · rw [h]; simp
theorem unOk_t {op t n : Int} {s : ByteArray} (hv : validB t n s = true) (h1 : 1 ≤ op) (h2 : op ≤ 3) (hu : unT op t ≠ 0) : unOk op t n s = true := by
  unfold unOk
  rw [hv]
  simp [h1, h2, hu]
theorem specUn_any (op t n : Int) (s : ByteArray) (hn1 : -9223372036854775808 ≤ n) (hn2 : n ≤ 9223372036854775807) (w : World) :
    Calls Tryd.prog 8 #[.int .i64 op, val t n s] w fun e w' => e = .returned (unR op t n s) ∧ Below w.heap.size w w' := by
  unfold unR
  cases hv : validB t n s
  · rw [unOk_f (.inl hv)]; exact specUn_b1 op t n s hv hn1 hn2 w
  · by_cases hu : unT op t = 0
    · rw [unOk_f (.inr (.inr (.inr hu)))]
      rcases un_cases op with h | h | h | h | h
      · exact specUn_b4 op t n s hv (by omega) (by omega) hu hn1 hn2 w
      · exact specUn_b4 op t n s hv (by omega) (by omega) hu hn1 hn2 w
      · exact specUn_b4 op t n s hv (by omega) (by omega) hu hn1 hn2 w
      · exact specUn_b2 op t n s hv h hn1 hn2 w
      · exact specUn_b3 op t n s hv h hn1 hn2 w
    · rcases un_cases op with h | h | h | h | h
      · subst h
        rw [unOk_t hv (by decide) (by decide) hu]
        exact specUn_1 t n s hv (unT_int (by decide) hu).1 (unT_int (by decide) hu).2 hn1 hn2 w
      · subst h
        rw [unOk_t hv (by decide) (by decide) hu]
        obtain rfl := unT_bool hu
        rcases valid_bool hv with rfl | rfl
        · exact specUn_2_0 s hv w
        · exact specUn_2_1 s hv w
      · subst h
        rw [unOk_t hv (by decide) (by decide) hu]
        exact specUn_3 t n s hv (unT_int (by decide) hu).1 (unT_int (by decide) hu).2 hn1 hn2 w
      · rw [unOk_f (.inr (.inl h))]; exact specUn_b2 op t n s hv h hn1 hn2 w
      · rw [unOk_f (.inr (.inr (.inl h)))]; exact specUn_b3 op t n s hv h hn1 hn2 w
end Go.Proofs.YtcjgmmiafflgnaaDoor.V
