import Derived.Test.YtmmgpbjmegfffaaDoorVDiv
/-! Printed by gen_vshift.py. -/
namespace Go.Proofs.YtmmgpbjmegfffaaDoor.V
open Go.RowKit Go.Shelf
set_option maxRecDepth 20000
theorem kt_bits (t : Int) : ((kT t).bits : Int) ≤ 64 := by have := bits_le (kT t); omega
/-- Where a shift stands behind k bits. -/
structure ShAt (w wr : World) (t z : Int) : Prop where
  box : wr.heap[w.heap.size + 1]? = some (vbox t z wNone)
  res : wr.heap[w.heap.size]? = some (vbox 0 0 wNone)
  low : Below w.heap.size w wr
theorem at_box {W : World} {g : Nat} {a b c : Value} {ty : TypeId} (e : W.heap[g]? = some (.cells #[a, b, c] ty)) :
    W.cell? ⟨g, 0, none⟩ = some a ∧ W.cell? ⟨g, 1, none⟩ = some b ∧ W.cell? ⟨g, 2, none⟩ = some c ∧ W.frozen? ⟨g, 0, none⟩ = false ∧ W.frozen? ⟨g, 1, none⟩ = false ∧ W.frozen? ⟨g, 2, none⟩ = false := by
  refine ⟨?_, ?_, ?_, ?_, ?_, ?_⟩ <;> simp [World.cell?, World.frozen?, e]
theorem ShAt.next {w wr W : World} {t z : Int} (h : ShAt w wr t z) (k : Below wr.heap.size wr W) : ShAt w W t z := by
  have hl := (Array.getElem?_eq_some_iff.1 h.box).1
  exact ⟨(k.block _ hl).trans h.box, (k.block _ (by omega)).trans h.res, h.low.trans (k.mono (by omega))⟩
theorem heap_set {W : World} {g i : Nat} {cs : Array Value} {ty : TypeId} (e : W.heap[g]? = some (.cells cs ty)) (v : Value) : (W.setCell ⟨g, i, none⟩ v).heap[g]? = some (.cells (cs.setIfInBounds i v) ty) := by
  unfold World.setCell
  simp only [Array.getElem?_modify, e]
  simp
theorem ShAt.put {w wr : World} {t z : Int} (h : ShAt w wr t z) (y : Int) : ShAt w (wr.setCell ⟨w.heap.size + 1, 1, none⟩ (.int .i64 y)) t y := by
  refine ⟨?_, ?_, set_below h.low _ _ (by omega) _⟩
  · have := heap_set (i := 1) h.box (.int .i64 y)
    simpa using this
  · rw [Below.heap_setCell _ _ _ _ (by simp)]; exact h.res
theorem ShAt.put3 {w wr : World} {t z : Int} (h : ShAt w wr t z) (y : Int) : ShAt w (((wr.setCell ⟨w.heap.size + 1, 0, none⟩ (.int .i64 t)).setCell ⟨w.heap.size + 1, 1, none⟩ (.int .i64 y)).setCell ⟨w.heap.size + 1, 2, none⟩ (.string wNone)) t y := by
  refine ⟨?_, ?_, set_below (set_below (set_below h.low _ _ (by omega) _) _ _ (by omega) _) _ _ (by omega) _⟩
  · have h0 := heap_set (i := 0) h.box (.int .i64 t)
    have h1 := heap_set (i := 1) h0 (.int .i64 y)
    have h2 := heap_set (i := 2) h1 (.string wNone)
    simpa using h2
  · rw [Below.heap_setCell _ _ _ _ (by simp), Below.heap_setCell _ _ _ _ (by simp), Below.heap_setCell _ _ _ _ (by simp)]; exact h.res
theorem half_cases (z : Int) : (0 ≤ z ∧ z.tdiv 2 = z / 2) ∨ (z < 0 ∧ z.tdiv 2 = z / 2 ∧ z.tmod 2 = 0 ∧ True) ∨ (z < 0 ∧ z.tdiv 2 = z / 2 + 1 ∧ z.tmod 2 = -1 ∧ True) := by
  have h1 := tdiv_abs z 2
  have h2 := tmod_abs z 2
  by_cases h : z < 0
  · simp [h] at h1 h2
    rcases Int.emod_two_eq z with e | e
    · exact .inr (.inl ⟨h, by omega, by omega, trivial⟩)
    · exact .inr (.inr ⟨h, by omega, by omega, trivial⟩)
  · exact .inl ⟨by omega, Int.tdiv_eq_ediv_of_nonneg (by omega)⟩
set_option maxHeartbeats 4000000 in
theorem shift_l (t a b : Int) (N m : Nat) (G : Nat → Int) (hN : (N : Int) ≤ 64) (hm : m ≤ N)
    (hb : ∀ W, Calls Tryd.prog 31 #[.int .i64 t] W fun e w' => e = .returned (.int .i64 N) ∧ w' = W)
    (hs : ∀ W, Calls Tryd.prog 32 #[.int .i64 t] W fun e w' => e = .returned (.bool (decide (7 ≤ t))) ∧ w' = W)
    (hc : (7 ≤ t ∧ b < 0 ∧ m = N) ∨ (¬ (7 ≤ t ∧ b < 0) ∧ (N : Int) < IntKind.u64.wrap b ∧ m = N) ∨ (b = m))
    (g0 : G 0 = a) (hg : ∀ k, k < m → ∀ W, Calls Tryd.prog 16 #[.int .i64 t, .int .u64 (IntKind.u64.wrap (IntKind.u64.wrap (G k) * 2))] W fun e w' => e = .returned (val t (G (k + 1)) wNone) ∧ Below W.heap.size W w') (w : World) :
    Calls Tryd.prog 18 #[.int .i64 17, .int .i64 t, .int .i64 a, .int .i64 b] w fun e w' => e = .returned (val t (G m) wNone) ∧ Below w.heap.size w w' := by
  have HB := hid hb
  have HS := hid hs
  have HG := hid hg
  have G0 := hid g0
  have HZ : Hid (ShAt w ((w.alloc (vbox 0 0 wNone)).alloc (vbox t a wNone)) t a) := ⟨by have := heap_new (w.alloc (vbox 0 0 wNone)) (vbox t a wNone); rwa [World.size_alloc] at this, heap_old (heap_new w _), alloc2 _ _ _⟩
  clear hb hs hg g0
  rcases hc with ⟨c1, c2, rfl⟩ | ⟨c1, c2, rfl⟩ | rfl
  · skip
    have HD : Hid (decide (7 ≤ t) = true) := decide_eq_true (by omega)
    rw [HD.out] at HS
    clear HD
    go_enter Tryd.func18, Tryd.ntmps18
    go_wp2_with (first
      | (go_at_call 31; refine (HB.out _).mono ?_; rintro e w' ⟨rfl, hw⟩; have hw2 := hw.symm; clear hw; subst hw2)
      | (go_at_call 32; refine (HS.out _).mono ?_; rintro e w' ⟨rfl, hw⟩; have hw2 := hw.symm; clear hw; subst hw2)
      | fail)
    try (go_quiet (first | (go_at_call 32; exact Calls.quiet_of_same (HS.out _)) | fail); go_wp2)
    go_loopw [11] (fun i wr => ∃ k : Nat, i = .int .i64 k ∧ k ≤ m ∧ ShAt w wr t (G k)) (fun i _ => m - (intOf i).toNat)
    case atStart => exact ⟨0, rfl, Nat.zero_le _, by rw [G0.out]; exact HZ.out⟩
    case round =>
      obtain ⟨k, rfl, hk, hsh⟩ := hrel
      have HK := hid hsh
      obtain ⟨x0, x1, x2, y0, y1, y2⟩ := at_box hsh.box
      clear hsh
      by_cases hlt : k < m
      · have HNX := hid (HG.out k hlt)
        obtain ⟨z, hz⟩ : ∃ z, G k = z := ⟨_, rfl⟩
        rw [hz] at HNX HK x1
        have hlt2 : (k : Int) < m := by omega
        go_wp2_with fail
        refine (HNX.out _).mono ?_
        rintro e w2 ⟨rfl, hb2⟩
        have HK2 := hid (HK.out.next hb2)
        clear hb2 x0 x1 x2 y0 y1 y2
        obtain ⟨x0, x1, x2, y0, y1, y2⟩ := at_box HK2.out.box
        go_wp2
        go_roundw
        case rel => exact ⟨k + 1, by go_num, by omega, HK2.out.put3 _⟩
        case measure => simp [intOf]; omega
      · have hke : k = m := by omega
        have hlt2 : ¬ (k : Int) < m := by omega
        obtain ⟨r0, r1, r2, u0, u1, u2⟩ := at_box HK.out.res
        have HE : Hid (G k = G m) := by show _ = _; rw [hke]
        clear hke
        go_wp2
        exact bodyPost_ret (v := val t (G k) wNone) (by simp [results, Tryd.results18, go_sem, r0, r1, r2]) rfl ⟨by rw [HE.out], setr (Nat.le_refl _) HK.out.low _ _ _⟩
  · by_cases h7 : 7 ≤ t
    · have c3 : ¬ b < 0 := by omega
      clear c1
      have HD : Hid (decide (7 ≤ t) = true) := decide_eq_true (by omega)
      rw [HD.out] at HS
      clear HD
      go_enter Tryd.func18, Tryd.ntmps18
      go_wp2_with (first
        | (go_at_call 31; refine (HB.out _).mono ?_; rintro e w' ⟨rfl, hw⟩; have hw2 := hw.symm; clear hw; subst hw2)
        | (go_at_call 32; refine (HS.out _).mono ?_; rintro e w' ⟨rfl, hw⟩; have hw2 := hw.symm; clear hw; subst hw2)
        | fail)
      try (go_quiet (first | (go_at_call 32; exact Calls.quiet_of_same (HS.out _)) | fail); go_wp2)
      go_loopw [11] (fun i wr => ∃ k : Nat, i = .int .i64 k ∧ k ≤ m ∧ ShAt w wr t (G k)) (fun i _ => m - (intOf i).toNat)
      case atStart => exact ⟨0, rfl, Nat.zero_le _, by rw [G0.out]; exact HZ.out⟩
      case round =>
        obtain ⟨k, rfl, hk, hsh⟩ := hrel
        have HK := hid hsh
        obtain ⟨x0, x1, x2, y0, y1, y2⟩ := at_box hsh.box
        clear hsh
        by_cases hlt : k < m
        · have HNX := hid (HG.out k hlt)
          obtain ⟨z, hz⟩ : ∃ z, G k = z := ⟨_, rfl⟩
          rw [hz] at HNX HK x1
          have hlt2 : (k : Int) < m := by omega
          go_wp2_with fail
          refine (HNX.out _).mono ?_
          rintro e w2 ⟨rfl, hb2⟩
          have HK2 := hid (HK.out.next hb2)
          clear hb2 x0 x1 x2 y0 y1 y2
          obtain ⟨x0, x1, x2, y0, y1, y2⟩ := at_box HK2.out.box
          go_wp2
          go_roundw
          case rel => exact ⟨k + 1, by go_num, by omega, HK2.out.put3 _⟩
          case measure => simp [intOf]; omega
        · have hke : k = m := by omega
          have hlt2 : ¬ (k : Int) < m := by omega
          obtain ⟨r0, r1, r2, u0, u1, u2⟩ := at_box HK.out.res
          have HE : Hid (G k = G m) := by show _ = _; rw [hke]
          clear hke
          go_wp2
          exact bodyPost_ret (v := val t (G k) wNone) (by simp [results, Tryd.results18, go_sem, r0, r1, r2]) rfl ⟨by rw [HE.out], setr (Nat.le_refl _) HK.out.low _ _ _⟩
    · clear c1
      have HD : Hid (decide (7 ≤ t) = false) := decide_eq_false (by omega)
      rw [HD.out] at HS
      clear HD
      go_enter Tryd.func18, Tryd.ntmps18
      go_wp2_with (first
        | (go_at_call 31; refine (HB.out _).mono ?_; rintro e w' ⟨rfl, hw⟩; have hw2 := hw.symm; clear hw; subst hw2)
        | (go_at_call 32; refine (HS.out _).mono ?_; rintro e w' ⟨rfl, hw⟩; have hw2 := hw.symm; clear hw; subst hw2)
        | fail)
      try (go_quiet (first | (go_at_call 32; exact Calls.quiet_of_same (HS.out _)) | fail); go_wp2)
      go_loopw [11] (fun i wr => ∃ k : Nat, i = .int .i64 k ∧ k ≤ m ∧ ShAt w wr t (G k)) (fun i _ => m - (intOf i).toNat)
      case atStart => exact ⟨0, rfl, Nat.zero_le _, by rw [G0.out]; exact HZ.out⟩
      case round =>
        obtain ⟨k, rfl, hk, hsh⟩ := hrel
        have HK := hid hsh
        obtain ⟨x0, x1, x2, y0, y1, y2⟩ := at_box hsh.box
        clear hsh
        by_cases hlt : k < m
        · have HNX := hid (HG.out k hlt)
          obtain ⟨z, hz⟩ : ∃ z, G k = z := ⟨_, rfl⟩
          rw [hz] at HNX HK x1
          have hlt2 : (k : Int) < m := by omega
          go_wp2_with fail
          refine (HNX.out _).mono ?_
          rintro e w2 ⟨rfl, hb2⟩
          have HK2 := hid (HK.out.next hb2)
          clear hb2 x0 x1 x2 y0 y1 y2
          obtain ⟨x0, x1, x2, y0, y1, y2⟩ := at_box HK2.out.box
          go_wp2
          go_roundw
          case rel => exact ⟨k + 1, by go_num, by omega, HK2.out.put3 _⟩
          case measure => simp [intOf]; omega
        · have hke : k = m := by omega
          have hlt2 : ¬ (k : Int) < m := by omega
          obtain ⟨r0, r1, r2, u0, u1, u2⟩ := at_box HK.out.res
          have HE : Hid (G k = G m) := by show _ = _; rw [hke]
          clear hke
          go_wp2
          exact bodyPost_ret (v := val t (G k) wNone) (by simp [results, Tryd.results18, go_sem, r0, r1, r2]) rfl ⟨by rw [HE.out], setr (Nat.le_refl _) HK.out.low _ _ _⟩
  · have c3 : ¬ (m : Int) < 0 := by omega
    have c4 : ¬ (N : Int) < (m : Int) := by omega
    have c5 : (m : Int) ≤ 64 := by omega
    have c6 : ¬ N < m := by omega
    by_cases h7 : 7 ≤ t
    · skip
      have HD : Hid (decide (7 ≤ t) = true) := decide_eq_true (by omega)
      rw [HD.out] at HS
      clear HD
      go_enter Tryd.func18, Tryd.ntmps18
      go_wp2_with (first
        | (go_at_call 31; refine (HB.out _).mono ?_; rintro e w' ⟨rfl, hw⟩; have hw2 := hw.symm; clear hw; subst hw2)
        | (go_at_call 32; refine (HS.out _).mono ?_; rintro e w' ⟨rfl, hw⟩; have hw2 := hw.symm; clear hw; subst hw2)
        | fail)
      try (go_quiet (first | (go_at_call 32; exact Calls.quiet_of_same (HS.out _)) | fail); go_wp2)
      go_loopw [11] (fun i wr => ∃ k : Nat, i = .int .i64 k ∧ k ≤ m ∧ ShAt w wr t (G k)) (fun i _ => m - (intOf i).toNat)
      case atStart => exact ⟨0, rfl, Nat.zero_le _, by rw [G0.out]; exact HZ.out⟩
      case round =>
        obtain ⟨k, rfl, hk, hsh⟩ := hrel
        have HK := hid hsh
        obtain ⟨x0, x1, x2, y0, y1, y2⟩ := at_box hsh.box
        clear hsh
        by_cases hlt : k < m
        · have HNX := hid (HG.out k hlt)
          obtain ⟨z, hz⟩ : ∃ z, G k = z := ⟨_, rfl⟩
          rw [hz] at HNX HK x1
          have hlt2 : (k : Int) < m := by omega
          go_wp2_with fail
          refine (HNX.out _).mono ?_
          rintro e w2 ⟨rfl, hb2⟩
          have HK2 := hid (HK.out.next hb2)
          clear hb2 x0 x1 x2 y0 y1 y2
          obtain ⟨x0, x1, x2, y0, y1, y2⟩ := at_box HK2.out.box
          go_wp2
          go_roundw
          case rel => exact ⟨k + 1, by go_num, by omega, HK2.out.put3 _⟩
          case measure => simp [intOf]; omega
        · have hke : k = m := by omega
          have hlt2 : ¬ (k : Int) < m := by omega
          obtain ⟨r0, r1, r2, u0, u1, u2⟩ := at_box HK.out.res
          have HE : Hid (G k = G m) := by show _ = _; rw [hke]
          clear hke
          go_wp2
          exact bodyPost_ret (v := val t (G k) wNone) (by simp [results, Tryd.results18, go_sem, r0, r1, r2]) rfl ⟨by rw [HE.out], setr (Nat.le_refl _) HK.out.low _ _ _⟩
    · skip
      have HD : Hid (decide (7 ≤ t) = false) := decide_eq_false (by omega)
      rw [HD.out] at HS
      clear HD
      go_enter Tryd.func18, Tryd.ntmps18
      go_wp2_with (first
        | (go_at_call 31; refine (HB.out _).mono ?_; rintro e w' ⟨rfl, hw⟩; have hw2 := hw.symm; clear hw; subst hw2)
        | (go_at_call 32; refine (HS.out _).mono ?_; rintro e w' ⟨rfl, hw⟩; have hw2 := hw.symm; clear hw; subst hw2)
        | fail)
      try (go_quiet (first | (go_at_call 32; exact Calls.quiet_of_same (HS.out _)) | fail); go_wp2)
      go_loopw [11] (fun i wr => ∃ k : Nat, i = .int .i64 k ∧ k ≤ m ∧ ShAt w wr t (G k)) (fun i _ => m - (intOf i).toNat)
      case atStart => exact ⟨0, rfl, Nat.zero_le _, by rw [G0.out]; exact HZ.out⟩
      case round =>
        obtain ⟨k, rfl, hk, hsh⟩ := hrel
        have HK := hid hsh
        obtain ⟨x0, x1, x2, y0, y1, y2⟩ := at_box hsh.box
        clear hsh
        by_cases hlt : k < m
        · have HNX := hid (HG.out k hlt)
          obtain ⟨z, hz⟩ : ∃ z, G k = z := ⟨_, rfl⟩
          rw [hz] at HNX HK x1
          have hlt2 : (k : Int) < m := by omega
          go_wp2_with fail
          refine (HNX.out _).mono ?_
          rintro e w2 ⟨rfl, hb2⟩
          have HK2 := hid (HK.out.next hb2)
          clear hb2 x0 x1 x2 y0 y1 y2
          obtain ⟨x0, x1, x2, y0, y1, y2⟩ := at_box HK2.out.box
          go_wp2
          go_roundw
          case rel => exact ⟨k + 1, by go_num, by omega, HK2.out.put3 _⟩
          case measure => simp [intOf]; omega
        · have hke : k = m := by omega
          have hlt2 : ¬ (k : Int) < m := by omega
          obtain ⟨r0, r1, r2, u0, u1, u2⟩ := at_box HK.out.res
          have HE : Hid (G k = G m) := by show _ = _; rw [hke]
          clear hke
          go_wp2
          exact bodyPost_ret (v := val t (G k) wNone) (by simp [results, Tryd.results18, go_sem, r0, r1, r2]) rfl ⟨by rw [HE.out], setr (Nat.le_refl _) HK.out.low _ _ _⟩
set_option maxHeartbeats 4000000 in
theorem shift_u (t a b : Int) (N m : Nat) (G : Nat → Int) (hN : (N : Int) ≤ 64) (hm : m ≤ N)
    (hb : ∀ W, Calls Tryd.prog 31 #[.int .i64 t] W fun e w' => e = .returned (.int .i64 N) ∧ w' = W)
    (hs : ∀ W, Calls Tryd.prog 32 #[.int .i64 t] W fun e w' => e = .returned (.bool (decide (7 ≤ t))) ∧ w' = W)
    (hc : (7 ≤ t ∧ b < 0 ∧ m = N) ∨ (¬ (7 ≤ t ∧ b < 0) ∧ (N : Int) < IntKind.u64.wrap b ∧ m = N) ∨ (b = m))
    (g0 : G 0 = a) (h7 : t < 7) (hg : ∀ k, k < m → G (k + 1) = IntKind.i64.wrap (IntKind.u64.wrap ((IntKind.u64.wrap (G k)).tdiv 2))) (w : World) :
    Calls Tryd.prog 18 #[.int .i64 18, .int .i64 t, .int .i64 a, .int .i64 b] w fun e w' => e = .returned (val t (G m) wNone) ∧ Below w.heap.size w w' := by
  have HB := hid hb
  have HS := hid hs
  have HG := hid hg
  have G0 := hid g0
  have HZ : Hid (ShAt w ((w.alloc (vbox 0 0 wNone)).alloc (vbox t a wNone)) t a) := ⟨by have := heap_new (w.alloc (vbox 0 0 wNone)) (vbox t a wNone); rwa [World.size_alloc] at this, heap_old (heap_new w _), alloc2 _ _ _⟩
  clear hb hs hg g0
  rcases hc with ⟨c1, c2, rfl⟩ | ⟨c1, c2, rfl⟩ | rfl
  · omega
  · clear c1
    have HD : Hid (decide (7 ≤ t) = false) := decide_eq_false (by omega)
    rw [HD.out] at HS
    clear HD
    go_enter Tryd.func18, Tryd.ntmps18
    go_wp2_with (first
      | (go_at_call 31; refine (HB.out _).mono ?_; rintro e w' ⟨rfl, hw⟩; have hw2 := hw.symm; clear hw; subst hw2)
      | (go_at_call 32; refine (HS.out _).mono ?_; rintro e w' ⟨rfl, hw⟩; have hw2 := hw.symm; clear hw; subst hw2)
      | fail)
    try (go_quiet (first | (go_at_call 32; exact Calls.quiet_of_same (HS.out _)) | fail); go_wp2)
    go_loopw [11] (fun i wr => ∃ k : Nat, i = .int .i64 k ∧ k ≤ m ∧ ShAt w wr t (G k)) (fun i _ => m - (intOf i).toNat)
    case atStart => exact ⟨0, rfl, Nat.zero_le _, by rw [G0.out]; exact HZ.out⟩
    case round =>
      obtain ⟨k, rfl, hk, hsh⟩ := hrel
      have HK := hid hsh
      obtain ⟨x0, x1, x2, y0, y1, y2⟩ := at_box hsh.box
      clear hsh
      by_cases hlt : k < m
      · have HNX := hid (HG.out k hlt)
        obtain ⟨z, hz⟩ : ∃ z, G k = z := ⟨_, rfl⟩
        rw [hz] at HNX HK x1
        have hlt2 : (k : Int) < m := by omega
        go_wp2_with (first | (go_at_call 32; refine (HS.out _).mono ?_; rintro e w' ⟨rfl, hw⟩; have hw2 := hw.symm; clear hw; subst hw2) | fail)
        go_roundw
        case rel => exact ⟨k + 1, by go_num, by omega, by rw [HNX.out, IntWalk.i64_left]; exact HK.out.put _⟩
        case measure => simp [intOf]; omega
      · have hke : k = m := by omega
        have hlt2 : ¬ (k : Int) < m := by omega
        obtain ⟨r0, r1, r2, u0, u1, u2⟩ := at_box HK.out.res
        have HE : Hid (G k = G m) := by show _ = _; rw [hke]
        clear hke
        go_wp2
        exact bodyPost_ret (v := val t (G k) wNone) (by simp [results, Tryd.results18, go_sem, r0, r1, r2]) rfl ⟨by rw [HE.out], setr (Nat.le_refl _) HK.out.low _ _ _⟩
  · have c4 : ¬ (N : Int) < (m : Int) := by omega
    have c5 : (m : Int) ≤ 64 := by omega
    have c6 : ¬ N < m := by omega
    have HD : Hid (decide (7 ≤ t) = false) := decide_eq_false (by omega)
    rw [HD.out] at HS
    clear HD
    go_enter Tryd.func18, Tryd.ntmps18
    go_wp2_with (first
      | (go_at_call 31; refine (HB.out _).mono ?_; rintro e w' ⟨rfl, hw⟩; have hw2 := hw.symm; clear hw; subst hw2)
      | (go_at_call 32; refine (HS.out _).mono ?_; rintro e w' ⟨rfl, hw⟩; have hw2 := hw.symm; clear hw; subst hw2)
      | fail)
    try (go_quiet (first | (go_at_call 32; exact Calls.quiet_of_same (HS.out _)) | fail); go_wp2)
    go_loopw [11] (fun i wr => ∃ k : Nat, i = .int .i64 k ∧ k ≤ m ∧ ShAt w wr t (G k)) (fun i _ => m - (intOf i).toNat)
    case atStart => exact ⟨0, rfl, Nat.zero_le _, by rw [G0.out]; exact HZ.out⟩
    case round =>
      obtain ⟨k, rfl, hk, hsh⟩ := hrel
      have HK := hid hsh
      obtain ⟨x0, x1, x2, y0, y1, y2⟩ := at_box hsh.box
      clear hsh
      by_cases hlt : k < m
      · have HNX := hid (HG.out k hlt)
        obtain ⟨z, hz⟩ : ∃ z, G k = z := ⟨_, rfl⟩
        rw [hz] at HNX HK x1
        have hlt2 : (k : Int) < m := by omega
        go_wp2_with (first | (go_at_call 32; refine (HS.out _).mono ?_; rintro e w' ⟨rfl, hw⟩; have hw2 := hw.symm; clear hw; subst hw2) | fail)
        go_roundw
        case rel => exact ⟨k + 1, by go_num, by omega, by rw [HNX.out, IntWalk.i64_left]; exact HK.out.put _⟩
        case measure => simp [intOf]; omega
      · have hke : k = m := by omega
        have hlt2 : ¬ (k : Int) < m := by omega
        obtain ⟨r0, r1, r2, u0, u1, u2⟩ := at_box HK.out.res
        have HE : Hid (G k = G m) := by show _ = _; rw [hke]
        clear hke
        go_wp2
        exact bodyPost_ret (v := val t (G k) wNone) (by simp [results, Tryd.results18, go_sem, r0, r1, r2]) rfl ⟨by rw [HE.out], setr (Nat.le_refl _) HK.out.low _ _ _⟩
set_option maxHeartbeats 4000000 in
theorem shift_s (t a b : Int) (N m : Nat) (G : Nat → Int) (hN : (N : Int) ≤ 64) (hm : m ≤ N)
    (hb : ∀ W, Calls Tryd.prog 31 #[.int .i64 t] W fun e w' => e = .returned (.int .i64 N) ∧ w' = W)
    (hs : ∀ W, Calls Tryd.prog 32 #[.int .i64 t] W fun e w' => e = .returned (.bool (decide (7 ≤ t))) ∧ w' = W)
    (hc : (7 ≤ t ∧ b < 0 ∧ m = N) ∨ (¬ (7 ≤ t ∧ b < 0) ∧ (N : Int) < IntKind.u64.wrap b ∧ m = N) ∨ (b = m))
    (g0 : G 0 = a) (h7 : 7 ≤ t) (hg : ∀ k, k < m → G (k + 1) = G k / 2 ∧ -9223372036854775808 ≤ G k ∧ G k ≤ 9223372036854775807) (w : World) :
    Calls Tryd.prog 18 #[.int .i64 18, .int .i64 t, .int .i64 a, .int .i64 b] w fun e w' => e = .returned (val t (G m) wNone) ∧ Below w.heap.size w w' := by
  have HB := hid hb
  have HS := hid hs
  have HG := hid hg
  have G0 := hid g0
  have HZ : Hid (ShAt w ((w.alloc (vbox 0 0 wNone)).alloc (vbox t a wNone)) t a) := ⟨by have := heap_new (w.alloc (vbox 0 0 wNone)) (vbox t a wNone); rwa [World.size_alloc] at this, heap_old (heap_new w _), alloc2 _ _ _⟩
  clear hb hs hg g0
  rcases hc with ⟨c1, c2, rfl⟩ | ⟨c1, c2, rfl⟩ | rfl
  · skip
    have HD : Hid (decide (7 ≤ t) = true) := decide_eq_true (by omega)
    rw [HD.out] at HS
    clear HD
    go_enter Tryd.func18, Tryd.ntmps18
    go_wp2_with (first
      | (go_at_call 31; refine (HB.out _).mono ?_; rintro e w' ⟨rfl, hw⟩; have hw2 := hw.symm; clear hw; subst hw2)
      | (go_at_call 32; refine (HS.out _).mono ?_; rintro e w' ⟨rfl, hw⟩; have hw2 := hw.symm; clear hw; subst hw2)
      | fail)
    try (go_quiet (first | (go_at_call 32; exact Calls.quiet_of_same (HS.out _)) | fail); go_wp2)
    go_loopw [11] (fun i wr => ∃ k : Nat, i = .int .i64 k ∧ k ≤ m ∧ ShAt w wr t (G k)) (fun i _ => m - (intOf i).toNat)
    case atStart => exact ⟨0, rfl, Nat.zero_le _, by rw [G0.out]; exact HZ.out⟩
    case round =>
      obtain ⟨k, rfl, hk, hsh⟩ := hrel
      have HK := hid hsh
      obtain ⟨x0, x1, x2, y0, y1, y2⟩ := at_box hsh.box
      clear hsh
      by_cases hlt : k < m
      · obtain ⟨e1, b1, b2⟩ := HG.out k hlt
        have HNX := hid e1
        clear e1
        obtain ⟨z, hz⟩ : ∃ z, G k = z := ⟨_, rfl⟩
        rw [hz] at HNX HK x1 b1 b2
        have hlt2 : (k : Int) < m := by omega
        rcases half_cases z with ⟨c0, q0⟩ | ⟨c0, q0, q1, q2⟩ | ⟨c0, q0, q1, q2⟩
        all_goals
          go_wp2_with (first | (go_at_call 32; refine (HS.out _).mono ?_; rintro e w' ⟨rfl, hw⟩; have hw2 := hw.symm; clear hw; subst hw2) | fail)
          try (go_quiet (fail); go_wp2)
          go_roundw
          case rel => exact ⟨k + 1, by go_num, by omega, by rw [HNX.out]; exact HK.out.put _⟩
          case measure => simp [intOf]; omega
      · have hke : k = m := by omega
        have hlt2 : ¬ (k : Int) < m := by omega
        obtain ⟨r0, r1, r2, u0, u1, u2⟩ := at_box HK.out.res
        have HE : Hid (G k = G m) := by show _ = _; rw [hke]
        clear hke
        go_wp2
        exact bodyPost_ret (v := val t (G k) wNone) (by simp [results, Tryd.results18, go_sem, r0, r1, r2]) rfl ⟨by rw [HE.out], setr (Nat.le_refl _) HK.out.low _ _ _⟩
  · have c3 : ¬ b < 0 := by omega
    clear c1
    have HD : Hid (decide (7 ≤ t) = true) := decide_eq_true (by omega)
    rw [HD.out] at HS
    clear HD
    go_enter Tryd.func18, Tryd.ntmps18
    go_wp2_with (first
      | (go_at_call 31; refine (HB.out _).mono ?_; rintro e w' ⟨rfl, hw⟩; have hw2 := hw.symm; clear hw; subst hw2)
      | (go_at_call 32; refine (HS.out _).mono ?_; rintro e w' ⟨rfl, hw⟩; have hw2 := hw.symm; clear hw; subst hw2)
      | fail)
    try (go_quiet (first | (go_at_call 32; exact Calls.quiet_of_same (HS.out _)) | fail); go_wp2)
    go_loopw [11] (fun i wr => ∃ k : Nat, i = .int .i64 k ∧ k ≤ m ∧ ShAt w wr t (G k)) (fun i _ => m - (intOf i).toNat)
    case atStart => exact ⟨0, rfl, Nat.zero_le _, by rw [G0.out]; exact HZ.out⟩
    case round =>
      obtain ⟨k, rfl, hk, hsh⟩ := hrel
      have HK := hid hsh
      obtain ⟨x0, x1, x2, y0, y1, y2⟩ := at_box hsh.box
      clear hsh
      by_cases hlt : k < m
      · obtain ⟨e1, b1, b2⟩ := HG.out k hlt
        have HNX := hid e1
        clear e1
        obtain ⟨z, hz⟩ : ∃ z, G k = z := ⟨_, rfl⟩
        rw [hz] at HNX HK x1 b1 b2
        have hlt2 : (k : Int) < m := by omega
        rcases half_cases z with ⟨c0, q0⟩ | ⟨c0, q0, q1, q2⟩ | ⟨c0, q0, q1, q2⟩
        all_goals
          go_wp2_with (first | (go_at_call 32; refine (HS.out _).mono ?_; rintro e w' ⟨rfl, hw⟩; have hw2 := hw.symm; clear hw; subst hw2) | fail)
          try (go_quiet (fail); go_wp2)
          go_roundw
          case rel => exact ⟨k + 1, by go_num, by omega, by rw [HNX.out]; exact HK.out.put _⟩
          case measure => simp [intOf]; omega
      · have hke : k = m := by omega
        have hlt2 : ¬ (k : Int) < m := by omega
        obtain ⟨r0, r1, r2, u0, u1, u2⟩ := at_box HK.out.res
        have HE : Hid (G k = G m) := by show _ = _; rw [hke]
        clear hke
        go_wp2
        exact bodyPost_ret (v := val t (G k) wNone) (by simp [results, Tryd.results18, go_sem, r0, r1, r2]) rfl ⟨by rw [HE.out], setr (Nat.le_refl _) HK.out.low _ _ _⟩
  · have c3 : ¬ (m : Int) < 0 := by omega
    have c4 : ¬ (N : Int) < (m : Int) := by omega
    have c5 : (m : Int) ≤ 64 := by omega
    have c6 : ¬ N < m := by omega
    have HD : Hid (decide (7 ≤ t) = true) := decide_eq_true (by omega)
    rw [HD.out] at HS
    clear HD
    go_enter Tryd.func18, Tryd.ntmps18
    go_wp2_with (first
      | (go_at_call 31; refine (HB.out _).mono ?_; rintro e w' ⟨rfl, hw⟩; have hw2 := hw.symm; clear hw; subst hw2)
      | (go_at_call 32; refine (HS.out _).mono ?_; rintro e w' ⟨rfl, hw⟩; have hw2 := hw.symm; clear hw; subst hw2)
      | fail)
    try (go_quiet (first | (go_at_call 32; exact Calls.quiet_of_same (HS.out _)) | fail); go_wp2)
    go_loopw [11] (fun i wr => ∃ k : Nat, i = .int .i64 k ∧ k ≤ m ∧ ShAt w wr t (G k)) (fun i _ => m - (intOf i).toNat)
    case atStart => exact ⟨0, rfl, Nat.zero_le _, by rw [G0.out]; exact HZ.out⟩
    case round =>
      obtain ⟨k, rfl, hk, hsh⟩ := hrel
      have HK := hid hsh
      obtain ⟨x0, x1, x2, y0, y1, y2⟩ := at_box hsh.box
      clear hsh
      by_cases hlt : k < m
      · obtain ⟨e1, b1, b2⟩ := HG.out k hlt
        have HNX := hid e1
        clear e1
        obtain ⟨z, hz⟩ : ∃ z, G k = z := ⟨_, rfl⟩
        rw [hz] at HNX HK x1 b1 b2
        have hlt2 : (k : Int) < m := by omega
        rcases half_cases z with ⟨c0, q0⟩ | ⟨c0, q0, q1, q2⟩ | ⟨c0, q0, q1, q2⟩
        all_goals
          go_wp2_with (first | (go_at_call 32; refine (HS.out _).mono ?_; rintro e w' ⟨rfl, hw⟩; have hw2 := hw.symm; clear hw; subst hw2) | fail)
          try (go_quiet (fail); go_wp2)
          go_roundw
          case rel => exact ⟨k + 1, by go_num, by omega, by rw [HNX.out]; exact HK.out.put _⟩
          case measure => simp [intOf]; omega
      · have hke : k = m := by omega
        have hlt2 : ¬ (k : Int) < m := by omega
        obtain ⟨r0, r1, r2, u0, u1, u2⟩ := at_box HK.out.res
        have HE : Hid (G k = G m) := by show _ = _; rw [hke]
        clear hke
        go_wp2
        exact bodyPost_ret (v := val t (G k) wNone) (by simp [results, Tryd.results18, go_sem, r0, r1, r2]) rfl ⟨by rw [HE.out], setr (Nat.le_refl _) HK.out.low _ _ _⟩
end Go.Proofs.YtmmgpbjmegfffaaDoor.V
