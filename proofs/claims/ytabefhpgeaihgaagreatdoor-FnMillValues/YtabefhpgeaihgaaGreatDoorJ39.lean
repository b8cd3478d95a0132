import Derived.Test.YtabefhpgeaihgaaGreatDoorJ34
/-! Printed by gen_vun.py. -/
namespace Go.Proofs.YtabefhpgeaihgaaGreatDoor.V
open Go.RowKit Go.Shelf
set_option maxRecDepth 20000
set_option maxHeartbeats 2000000 in
theorem unOf_b2 (op t n : Int) (s : ByteArray) (ho : op < 1) (p : Addr) (x : ByteArray) (w : World) (he : ErrAt w 0 p x) :
    Calls Tryz.prog 19 #[.int .i64 op, val t n s] w fun e w' => e = .returned (.tuple #[val 0 0 wNone, errV p]) ∧ Below w.heap.size w w' := by
  have HE := hid he
  clear he
  go_enter Tryz.func19, Tryz.ntmps19
  go_wp2
  have HB1 := hid (Two.start w t n s)
  have HG := hid ((HE.out.next HB1.out.below).glob)
  obtain ⟨W, hW⟩ : ∃ W, (w.alloc (vbox t n s)).alloc (vbox 0 0 wNone) = W := ⟨_, rfl⟩
  rw [hW] at HB1 HG ⊢
  clear hW
  obtain ⟨r0, r1, r2⟩ := HB1.out.res
  obtain ⟨y0, y1, y2⟩ := HB1.out.room
  have g0 := HG.out
  go_region
  go_wp2
  exact bodyPost_ret (v := .tuple #[val 0 0 wNone, errV p]) (by simp [results, Tryz.results19, go_sem, r0, r1, r2]) rfl ⟨rfl, (setr (by omega) HB1.out.below _ _ _).drew⟩
set_option maxHeartbeats 2000000 in
theorem unOf_b3 (op t n : Int) (s : ByteArray) (ho : 3 < op) (p : Addr) (x : ByteArray) (w : World) (he : ErrAt w 0 p x) :
    Calls Tryz.prog 19 #[.int .i64 op, val t n s] w fun e w' => e = .returned (.tuple #[val 0 0 wNone, errV p]) ∧ Below w.heap.size w w' := by
  have HE := hid he
  clear he
  have ho1 : ¬ op < 1 := by omega
  go_enter Tryz.func19, Tryz.ntmps19
  go_wp2
  have HB1 := hid (Two.start w t n s)
  have HG := hid ((HE.out.next HB1.out.below).glob)
  obtain ⟨W, hW⟩ : ∃ W, (w.alloc (vbox t n s)).alloc (vbox 0 0 wNone) = W := ⟨_, rfl⟩
  rw [hW] at HB1 HG ⊢
  clear hW
  obtain ⟨r0, r1, r2⟩ := HB1.out.res
  obtain ⟨y0, y1, y2⟩ := HB1.out.room
  have g0 := HG.out
  go_region
  go_wp2
  exact bodyPost_ret (v := .tuple #[val 0 0 wNone, errV p]) (by simp [results, Tryz.results19, go_sem, r0, r1, r2]) rfl ⟨rfl, (setr (by omega) HB1.out.below _ _ _).drew⟩
set_option maxHeartbeats 2000000 in
theorem unOf_b1 (op t n : Int) (s : ByteArray) (hv : validB t n s = false) (h1 : 1 ≤ op) (h2 : op ≤ 3) (hn1 : -9223372036854775808 ≤ n) (hn2 : n ≤ 9223372036854775807) (p : Addr) (x : ByteArray) (w : World) (he : ErrAt w 0 p x) :
    Calls Tryz.prog 19 #[.int .i64 op, val t n s] w fun e w' => e = .returned (.tuple #[val 0 0 wNone, errV p]) ∧ Below w.heap.size w w' := by
  have HE := hid he
  clear he
  have HV : Hid (∀ W, Calls Tryz.prog 9 #[val t n s] W fun e w' => e = .returned (.bool false) ∧ Below W.heap.size W w') := fun W => by
    have := implVV t n s hn1 hn2 W
    rwa [hv] at this
  clear hv
  go_enter Tryz.func19, Tryz.ntmps19
  go_wp2_with fail
  refine (HV.out _).mono ?_
  rintro e w1 ⟨rfl, hb1⟩
  have HB1 := hid ((Two.start w t n s).next hb1)
  obtain ⟨x0, x1, x2⟩ := HB1.out.arg
  clear hb1
  have HG := hid ((HE.out.next HB1.out.below).glob)
  go_wp2
  obtain ⟨r0, r1, r2⟩ := HB1.out.res
  obtain ⟨y0, y1, y2⟩ := HB1.out.room
  have g0 := HG.out
  go_region
  go_wp2
  exact bodyPost_ret (v := .tuple #[val 0 0 wNone, errV p]) (by simp [results, Tryz.results19, go_sem, r0, r1, r2]) rfl ⟨rfl, (setr (by omega) HB1.out.below _ _ _).drew⟩
set_option maxHeartbeats 2000000 in
theorem unOf_b4 (op t n : Int) (s : ByteArray) (hv : validB t n s = true) (h1 : 1 ≤ op) (h2 : op ≤ 3) (hu : unT op t = 0) (hn1 : -9223372036854775808 ≤ n) (hn2 : n ≤ 9223372036854775807) (p : Addr) (x : ByteArray) (w : World) (he : ErrAt w 0 p x) :
    Calls Tryz.prog 19 #[.int .i64 op, val t n s] w fun e w' => e = .returned (.tuple #[val 0 0 wNone, errV p]) ∧ Below w.heap.size w w' := by
  have HE := hid he
  clear he
  have HV : Hid (∀ W, Calls Tryz.prog 9 #[val t n s] W fun e w' => e = .returned (.bool true) ∧ Below W.heap.size W w') := fun W => by
    have := implVV t n s hn1 hn2 W
    rwa [hv] at this
  have HU : Hid (∀ W, Calls Tryz.prog 33 #[.int .i64 op, .int .i64 t] W fun e w' => e = .returned (.int .i64 0) ∧ Below W.heap.size W w') := fun W => by
    have := unGives_any op t W
    rwa [show unT op t = 0 from hu] at this
  clear hv hu
  go_enter Tryz.func19, Tryz.ntmps19
  go_wp2_with fail
  refine (HV.out _).mono ?_
  rintro e w1 ⟨rfl, hb1⟩
  have HB1 := hid ((Two.start w t n s).next hb1)
  obtain ⟨x0, x1, x2⟩ := HB1.out.arg
  clear hb1
  go_wp2_with fail
  refine (HU.out _).mono ?_
  rintro e w2 ⟨rfl, hb2⟩
  have HB2 := hid (HB1.out.next hb2)
  have HG := hid ((HE.out.next HB2.out.below).glob)
  clear hb2 x0 x1 x2
  go_wp2
  obtain ⟨r0, r1, r2⟩ := HB2.out.res
  obtain ⟨y0, y1, y2⟩ := HB2.out.room
  have g0 := HG.out
  go_region
  go_wp2
  exact bodyPost_ret (v := .tuple #[val 0 0 wNone, errV p]) (by simp [results, Tryz.results19, go_sem, r0, r1, r2]) rfl ⟨rfl, (setr (by omega) HB2.out.below _ _ _).drew⟩
set_option maxHeartbeats 2000000 in
theorem unOf_1 (t n : Int) (s : ByteArray) (hv : validB t n s = true) (h3 : 3 ≤ t) (h4 : t ≤ 10) (hn1 : -9223372036854775808 ≤ n) (hn2 : n ≤ 9223372036854775807) (w : World) :
    Calls Tryz.prog 19 #[.int .i64 1, val t n s] w fun e w' => e = .returned (.tuple #[val t (cntT t 10 0 n) wNone, .nilIface]) ∧ Below w.heap.size w w' := by
  have HV : Hid (∀ W, Calls Tryz.prog 9 #[val t n s] W fun e w' => e = .returned (.bool true) ∧ Below W.heap.size W w') := fun W => by
    have := implVV t n s hn1 hn2 W
    rwa [hv] at this
  have HU : Hid (∀ W, Calls Tryz.prog 33 #[.int .i64 1, .int .i64 t] W fun e w' => e = .returned (.int .i64 t) ∧ Below W.heap.size W w') := fun W => by
    have := unGives_any 1 t W
    rwa [show unT 1 t = t from by simp [unT, h3, h4]] at this
  have HN : Hid (∀ W, Calls Tryz.prog 32 #[.int .i64 10, .int .i64 t, .int .i64 0, .int .i64 n] W fun e w' => e = .returned (.tuple #[val t (cntT t 10 0 n) wNone, .nilIface]) ∧ Below W.heap.size W w') := fun W => by
    have := intsN t 10 0 n h3 h4 (by decide) (by decide) (by decide) (by decide) hn1 hn2 (fun h => absurd h (by decide)) W
    rwa [impl_cnt t 10 0 n (by decide) (by decide)] at this
  generalize cntT t 10 0 n = z at *
  clear hv
  go_enter Tryz.func19, Tryz.ntmps19
  go_wp2_with fail
  refine (HV.out _).mono ?_
  rintro e w1 ⟨rfl, hb1⟩
  have HB1 := hid ((Two.start w t n s).next hb1)
  obtain ⟨x0, x1, x2⟩ := HB1.out.arg
  clear hb1
  go_wp2_with fail
  refine (HU.out _).mono ?_
  rintro e w2 ⟨rfl, hb2⟩
  have HB2 := hid (HB1.out.next hb2)
  clear hb2 x0 x1 x2
  obtain ⟨x0, x1, x2⟩ := HB2.out.arg
  go_wp2_with fail
  refine (HN.out _).mono ?_
  rintro e w3 ⟨rfl, hb3⟩
  have HB3 := hid (HB2.out.next hb3)
  clear hb3 x0 x1 x2
  obtain ⟨r0, r1, r2⟩ := HB3.out.res
  obtain ⟨y0, y1, y2⟩ := HB3.out.room
  go_wp2
  exact bodyPost_ret (v := (.tuple #[val t z wNone, .nilIface])) (by simp [results, Tryz.results19, go_sem, r0, r1, r2]) rfl ⟨rfl, setr (by omega) HB3.out.below _ _ _⟩
set_option maxHeartbeats 2000000 in
theorem unOf_3 (t n : Int) (s : ByteArray) (hv : validB t n s = true) (h3 : 3 ≤ t) (h4 : t ≤ 10) (hn1 : -9223372036854775808 ≤ n) (hn2 : n ≤ 9223372036854775807) (w : World) :
    Calls Tryz.prog 19 #[.int .i64 3, val t n s] w fun e w' => e = .returned (.tuple #[val t (cntT t 12 n (-1)) wNone, .nilIface]) ∧ Below w.heap.size w w' := by
  have HV : Hid (∀ W, Calls Tryz.prog 9 #[val t n s] W fun e w' => e = .returned (.bool true) ∧ Below W.heap.size W w') := fun W => by
    have := implVV t n s hn1 hn2 W
    rwa [hv] at this
  have HU : Hid (∀ W, Calls Tryz.prog 33 #[.int .i64 3, .int .i64 t] W fun e w' => e = .returned (.int .i64 t) ∧ Below W.heap.size W w') := fun W => by
    have := unGives_any 3 t W
    rwa [show unT 3 t = t from by simp [unT, h3, h4]] at this
  have HN : Hid (∀ W, Calls Tryz.prog 32 #[.int .i64 12, .int .i64 t, .int .i64 n, .int .i64 (-1)] W fun e w' => e = .returned (.tuple #[val t (cntT t 12 n (-1)) wNone, .nilIface]) ∧ Below W.heap.size W w') := fun W => by
    have := intsN t 12 n (-1) h3 h4 (by decide) (by decide) hn1 hn2 (by decide) (by decide) (fun h => absurd h (by decide)) W
    rwa [impl_cnt t 12 n (-1) (by decide) (by decide)] at this
  generalize cntT t 12 n (-1) = z at *
  clear hv
  go_enter Tryz.func19, Tryz.ntmps19
  go_wp2_with fail
  refine (HV.out _).mono ?_
  rintro e w1 ⟨rfl, hb1⟩
  have HB1 := hid ((Two.start w t n s).next hb1)
  obtain ⟨x0, x1, x2⟩ := HB1.out.arg
  clear hb1
  go_wp2_with fail
  refine (HU.out _).mono ?_
  rintro e w2 ⟨rfl, hb2⟩
  have HB2 := hid (HB1.out.next hb2)
  clear hb2 x0 x1 x2
  obtain ⟨x0, x1, x2⟩ := HB2.out.arg
  go_wp2_with fail
  refine (HN.out _).mono ?_
  rintro e w3 ⟨rfl, hb3⟩
  have HB3 := hid (HB2.out.next hb3)
  clear hb3 x0 x1 x2
  obtain ⟨r0, r1, r2⟩ := HB3.out.res
  obtain ⟨y0, y1, y2⟩ := HB3.out.room
  go_wp2
  exact bodyPost_ret (v := (.tuple #[val t z wNone, .nilIface])) (by simp [results, Tryz.results19, go_sem, r0, r1, r2]) rfl ⟨rfl, setr (by omega) HB3.out.below _ _ _⟩
set_option maxHeartbeats 2000000 in
theorem unOf_2_0 (s : ByteArray) (hv : validB 1 0 s = true) (w : World) :
    Calls Tryz.prog 19 #[.int .i64 2, val 1 0 s] w fun e w' => e = .returned (.tuple #[val 1 1 wNone, .nilIface]) ∧ Below w.heap.size w w' := by
  have HV : Hid (∀ W, Calls Tryz.prog 9 #[val 1 0 s] W fun e w' => e = .returned (.bool true) ∧ Below W.heap.size W w') := fun W => by
    have := implVV 1 0 s (by decide) (by decide) W
    rwa [hv] at this
  have HU : Hid (∀ W, Calls Tryz.prog 33 #[.int .i64 2, .int .i64 1] W fun e w' => e = .returned (.int .i64 1) ∧ Below W.heap.size W w') := fun W => by
    have := unGives_any 2 1 W
    rwa [show unT 2 1 = 1 from rfl] at this
  clear hv
  go_enter Tryz.func19, Tryz.ntmps19
  go_wp2_with fail
  refine (HV.out _).mono ?_
  rintro e w1 ⟨rfl, hb1⟩
  have HB1 := hid ((Two.start w 1 0 s).next hb1)
  obtain ⟨x0, x1, x2⟩ := HB1.out.arg
  clear hb1
  go_wp2_with fail
  refine (HU.out _).mono ?_
  rintro e w2 ⟨rfl, hb2⟩
  have HB2 := hid (HB1.out.next hb2)
  clear hb2 x0 x1 x2
  obtain ⟨x0, x1, x2⟩ := HB2.out.arg
  go_wp2_with fail
  refine (ofBool_any true _).mono ?_
  rintro e w3 ⟨rfl, hb3⟩
  have HB3 := hid (HB2.out.next hb3)
  clear hb3 x0 x1 x2
  obtain ⟨r0, r1, r2⟩ := HB3.out.res
  obtain ⟨y0, y1, y2⟩ := HB3.out.room
  go_wp2
  exact bodyPost_ret (v := (.tuple #[val 1 1 wNone, .nilIface])) (by simp [results, Tryz.results19, go_sem, r0, r1, r2]) rfl ⟨rfl, setr (by omega) HB3.out.below _ _ _⟩
set_option maxHeartbeats 2000000 in
theorem unOf_2_1 (s : ByteArray) (hv : validB 1 1 s = true) (w : World) :
    Calls Tryz.prog 19 #[.int .i64 2, val 1 1 s] w fun e w' => e = .returned (.tuple #[val 1 0 wNone, .nilIface]) ∧ Below w.heap.size w w' := by
  have HV : Hid (∀ W, Calls Tryz.prog 9 #[val 1 1 s] W fun e w' => e = .returned (.bool true) ∧ Below W.heap.size W w') := fun W => by
    have := implVV 1 1 s (by decide) (by decide) W
    rwa [hv] at this
  have HU : Hid (∀ W, Calls Tryz.prog 33 #[.int .i64 2, .int .i64 1] W fun e w' => e = .returned (.int .i64 1) ∧ Below W.heap.size W w') := fun W => by
    have := unGives_any 2 1 W
    rwa [show unT 2 1 = 1 from rfl] at this
  clear hv
  go_enter Tryz.func19, Tryz.ntmps19
  go_wp2_with fail
  refine (HV.out _).mono ?_
  rintro e w1 ⟨rfl, hb1⟩
  have HB1 := hid ((Two.start w 1 1 s).next hb1)
  obtain ⟨x0, x1, x2⟩ := HB1.out.arg
  clear hb1
  go_wp2_with fail
  refine (HU.out _).mono ?_
  rintro e w2 ⟨rfl, hb2⟩
  have HB2 := hid (HB1.out.next hb2)
  clear hb2 x0 x1 x2
  obtain ⟨x0, x1, x2⟩ := HB2.out.arg
  go_wp2_with fail
  refine (ofBool_any false _).mono ?_
  rintro e w3 ⟨rfl, hb3⟩
  have HB3 := hid (HB2.out.next hb3)
  clear hb3 x0 x1 x2
  obtain ⟨r0, r1, r2⟩ := HB3.out.res
  obtain ⟨y0, y1, y2⟩ := HB3.out.room
  go_wp2
  exact bodyPost_ret (v := (.tuple #[val 1 0 wNone, .nilIface])) (by simp [results, Tryz.results19, go_sem, r0, r1, r2]) rfl ⟨rfl, setr (by omega) HB3.out.below _ _ _⟩
/-- What is told, with an error. -/
abbrev unE (op t n : Int) (s : ByteArray) (p : Addr) : Value := if unOk op t n s then .tuple #[val t (unN op t n) wNone, .nilIface] else .tuple #[val 0 0 wNone, errV p]
theorem unOf_any (op t n : Int) (s : ByteArray) (hn1 : -9223372036854775808 ≤ n) (hn2 : n ≤ 9223372036854775807) (p : Addr) (x : ByteArray) (w : World) (he : ErrAt w 0 p x) :
    Calls Tryz.prog 19 #[.int .i64 op, val t n s] w fun e w' => e = .returned (unE op t n s p) ∧ Below w.heap.size w w' := by
  unfold unE
  rcases un_cases op with h | h | h | h | h
  iterate 3
    · cases hv : validB t n s
      · rw [unOk_f (.inl hv)]; exact unOf_b1 op t n s hv (by omega) (by omega) hn1 hn2 p x w he
      · by_cases hu : unT op t = 0
        · rw [unOk_f (.inr (.inr (.inr hu)))]; exact unOf_b4 op t n s hv (by omega) (by omega) hu hn1 hn2 p x w he
        · subst h
          rw [unOk_t hv (by decide) (by decide) hu]
          first
            | exact unOf_1 t n s hv (unT_int (by decide) hu).1 (unT_int (by decide) hu).2 hn1 hn2 w
            | exact unOf_3 t n s hv (unT_int (by decide) hu).1 (unT_int (by decide) hu).2 hn1 hn2 w
            | (obtain rfl := unT_bool hu
               rcases valid_bool hv with rfl | rfl
               · exact unOf_2_0 s hv w
               · exact unOf_2_1 s hv w)
  · rw [unOk_f (.inr (.inl h))]; exact unOf_b2 op t n s h p x w he
  · rw [unOk_f (.inr (.inr (.inl h)))]; exact unOf_b3 op t n s h p x w he
set_option maxHeartbeats 2000000 in
theorem implUn_any (op t n : Int) (s : ByteArray) (hn1 : -9223372036854775808 ≤ n) (hn2 : n ≤ 9223372036854775807) (p : Addr) (w : World) (he : ErrAt w 0 p wType) :
    Calls Tryz.prog 7 #[.int .i64 op, val t n s] w fun e w' => e = .returned (unR op t n s) ∧ Below w.heap.size w w' := by
  have HO : Hid (∀ W, Below w.heap.size w W → _) := fun W hW => unOf_any op t n s hn1 hn2 p wType W (he.next hW)
  have HE := hid he
  clear he
  unfold unR
  unfold unE at HO
  cases hc : unOk op t n s <;> rw [hc] at HO
  · clear hc
    go_enter Tryz.func7, Tryz.ntmps7
    go_wp2_with fail
    refine (HO.out _ (alloc2 _ _ _)).mono ?_
    rintro e w1 ⟨rfl, hb1⟩
    have HB1 := hid ((Two.start w t n s).next hb1)
    clear hb1
    have HE1 := hid (HE.out.next HB1.out.below)
    go_wp2_with fail
    refine (answer_err 0 0 wNone p wType _ HE1.out.cell HE1.out.la).mono ?_
    rintro e w2 ⟨rfl, hb2⟩
    have HB2 := hid (HB1.out.next hb2)
    obtain ⟨r0, r1, r2⟩ := HB2.out.res
    obtain ⟨y0, y1, y2⟩ := HB2.out.room
    clear hb2
    go_wp2
    exact bodyPost_ret (v := ans 0 0 wNone wType) (by simp [results, Tryz.results7, go_sem, r0, r1, r2]) rfl ⟨rfl, setr (by omega) HB2.out.below _ _ _⟩
  · obtain ⟨z, hz⟩ : ∃ z, unN op t n = z := ⟨_, rfl⟩
    rw [hz] at HO ⊢
    clear hc hz
    go_enter Tryz.func7, Tryz.ntmps7
    go_wp2_with fail
    refine (HO.out _ (alloc2 _ _ _)).mono ?_
    rintro e w1 ⟨rfl, hb1⟩
    have HB1 := hid ((Two.start w t n s).next hb1)
    clear hb1
    have HE1 := hid (HE.out.next HB1.out.below)
    go_wp2_with fail
    refine (answer_nil t z wNone _).mono ?_
    rintro e w2 ⟨rfl, hb2⟩
    have HB2 := hid (HB1.out.next hb2)
    obtain ⟨r0, r1, r2⟩ := HB2.out.res
    obtain ⟨y0, y1, y2⟩ := HB2.out.room
    clear hb2
    go_wp2
    exact bodyPost_ret (v := ans t z wNone wNone) (by simp [results, Tryz.results7, go_sem, r0, r1, r2]) rfl ⟨rfl, setr (by omega) HB2.out.below _ _ _⟩
end Go.Proofs.YtabefhpgeaihgaaGreatDoor.V
