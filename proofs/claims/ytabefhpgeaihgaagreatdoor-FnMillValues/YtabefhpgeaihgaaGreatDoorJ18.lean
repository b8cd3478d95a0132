import Derived.Maps.AppendAt
import Derived.Test.YtabefhpgeaihgaaGreatDoorJ15
import Derived.Test.YtabefhpgeaihgaaGreatDoorJ16
import Derived.Test.YtabefhpgeaihgaaGreatDoorJ13
/-! Draws from place to place: paths, texts, greatest numbers. -/
namespace Go.Proofs.YtabefhpgeaihgaaGreatDoor.V
open Go.RowKit Go.Shelf
set_option maxRecDepth 20000
/-- Since w nothing but the reader in block R was written, and it has read at most b numbers. -/
def At (R : Nat) (w : World) (b : Nat) (W : World) : Prop := ∃ q, q ≤ b ∧ Rd R W q ∧ Sv (fun k => k = R) w W
section
variable {R b : Nat} {w W V : World}
theorem At.start (h : Rd R w b) : At R w b w := ⟨b, Nat.le_refl _, h, Sv.refl _ _⟩
theorem At.lt (h : At R w b W) : R < W.heap.size := by obtain ⟨q, _, h, _⟩ := h; exact h.lt
theorem At.size (h : At R w b W) : w.heap.size ≤ W.heap.size := by obtain ⟨q, _, _, h⟩ := h; exact h.size
theorem At.mono {c : Nat} (h : At R w b W) (hc : b ≤ c) : At R w c W := by obtain ⟨q, h1, h2⟩ := h; exact ⟨q, by omega, h2⟩
theorem At.next (h : At R w b W) (k : Below W.heap.size W V) : At R w b V := by
  obtain ⟨q, h1, h2, h3⟩ := h
  exact ⟨q, h1, h2.next k, h3.trans (Sv.of_below k)⟩
theorem At.alloc (h : At R w b W) (o : Obj) : At R w b (W.alloc o) := h.next (alloc_below W o)
theorem At.drewN (h : At R w b W) (n : Nat) : At R w b (W.drewN n) := h.next (drewN_below W n)
theorem At.drew (h : At R w b W) : At R w b W.drew := h.next (Below.refl _ _).drew
/-- From one start to a later one. -/
theorem At.comp {c : Nat} (h : At R w b W) (k : ∀ q, q ≤ b → Rd R W q → At R W (q + c) V) : At R w (b + c) V := by
  obtain ⟨q, h1, h2, h3⟩ := h
  obtain ⟨q', k1, k2, k3⟩ := k q h1 h2
  exact ⟨q', by omega, k2, h3.trans k3⟩
theorem At.set {g i : Nat} (h : At R w b W) (hR : R < w.heap.size) (hg : w.heap.size ≤ g) (v : Value) : At R w b (W.setCell ⟨g, i, none⟩ v) := by
  obtain ⟨q, h1, h2, h3⟩ := h
  refine ⟨q, h1, ?_, h3.setCell (.inr hg) v⟩
  have hl := h2.lt
  obtain ⟨ad, n, cap, e1, e2, e3⟩ := h2
  have hs : (W.setCell ⟨g, i, none⟩ v).heap[R]? = W.heap[R]? := Below.heap_setCell _ _ _ _ (show R ≠ g by omega)
  refine ⟨ad, n, cap, hs.trans e1, e2, ?_⟩
  rcases e3 with e3 | ⟨a, f1, f2, f3⟩
  · exact .inl e3
  · refine .inr ⟨a, f1, f2, fun j hj => ?_⟩
    obtain ⟨x, hx⟩ := f3 j hj
    refine ⟨x, ?_⟩
    have e : (W.setCell ⟨g, i, none⟩ v).heap[(a.add j).block]? = W.heap[(a.add j).block]? := Below.heap_setCell _ _ _ _ (show (a.add j).block ≠ g by rw [add_block]; omega)
    exact (World.cell?_of_block (w := W) e).trans hx
end
theorem pick_at {R b : Nat} {w W : World} (h : At R w b W) (hb : b ≤ 1000000) (n : Int) (hn : n ≤ 1000000) :
    Calls Tryz.prog 12 #[.pointer (some ⟨R, 0, none⟩), .int .i64 n] W fun e w' => ∃ x : Nat, e = .returned (.int .i64 x) ∧ (x = 0 ∨ (x : Int) < n) ∧ At R w (b + 1) w' ∧ Sv (fun k => k = R) W w' := by
  obtain ⟨q, h1, h2, h3⟩ := h
  refine (pick_any R q n W (by omega) (by omega) h2).mono ?_
  rintro e w' ⟨⟨x, rfl, hx⟩, hr, hs⟩
  exact ⟨x, rfl, hx, ⟨q + 1, by omega, hr, h3.trans hs⟩, hs⟩
/-- A cell of a row that was laid. -/
theorem lit_cell {R : Nat} {W w' : World} {cs : Array Value} {ty : TypeId} (hs : Sv (fun k => k = R) (W.alloc (.cells cs ty)) w') (hR : R < W.heap.size) (i : Nat) : w'.cell? ⟨W.heap.size, i, none⟩ = cs[i]? := by
  have e := hs.block W.heap.size (by simp) (by omega)
  rw [heap_alloc_new] at e
  exact cell_hp e i
set_option maxHeartbeats 2000000 in
theorem path_at {R b : Nat} {w W : World} (h : At R w b W) (hb : b ≤ 900000) :
    Calls Tryz.prog 71 #[.pointer (some ⟨R, 0, none⟩)] W fun e w' => ∃ s : ByteArray, e = .returned (.string s) ∧ At R w (b + 1) w' := by
  have HA := hid h
  have HR := hid h.lt
  clear h
  go_enter Tryz.func71, Tryz.ntmps71
  go_wp2_with fail
  refine (pick_at (HA.out.alloc _) (by omega) 8 (by omega)).mono ?_
  rintro e w1 ⟨x, rfl, hx, a1, s1⟩
  have HA1 := hid a1
  have hx8 : x < 8 := by omega
  have hz8 : (x : Int) < 8 := by omega
  obtain ⟨y, c1⟩ : ∃ y : ByteArray, w1.cell? ⟨W.heap.size, x, none⟩ = some (.string y) := by
    rw [lit_cell s1 HR.out]
    have h7 : x = 0 ∨ x = 1 ∨ x = 2 ∨ x = 3 ∨ x = 4 ∨ x = 5 ∨ x = 6 ∨ x = 7 := by omega
    rcases h7 with rfl | rfl | rfl | rfl | rfl | rfl | rfl | rfl <;> exact ⟨_, rfl⟩
  clear hx a1 s1
  go_wp2
  go_ret
  exact ⟨y, rfl, HA1.out⟩
set_option maxHeartbeats 400000 in
theorem l10Bits_all (t : Int) (h1 : 1 ≤ t) (h2 : t ≤ 10) (w : World) :
    Calls Tryz.prog 26 #[.int .i64 t] w fun e w' => e = .returned (.int .i64 ((kT t).bits : Nat)) ∧ w' = w := by
  by_cases h3 : 3 ≤ t
  · exact l10Bits_any t h3 h2 w
  · obtain rfl | rfl : t = 1 ∨ t = 2 := by omega
    all_goals go_enter Tryz.func26, Tryz.ntmps26
    all_goals go_wp2
    all_goals go_ret
    all_goals exact ⟨rfl, rfl⟩
theorem max_step (i : Nat) (hi : i < 64) : IntKind.u64.wrap (IntKind.u64.wrap ((2 ^ i - 1) * 2) + 1) = 2 ^ (i + 1) - 1 := by
  have h1 : (2 : Int) ^ (i + 1) = 2 ^ i * 2 := Int.pow_succ 2 i
  have h2 : (2 : Nat) ^ (i + 1) ≤ 2 ^ 64 := Nat.pow_le_pow_right (by decide) (by omega)
  have h3 : (2 : Int) ^ (i + 1) ≤ 18446744073709551616 := by
    have : ((2 ^ (i + 1) : Nat) : Int) ≤ ((2 ^ 64 : Nat) : Int) := Int.ofNat_le.2 h2
    simpa using this
  have h0 := one_le_pow i
  rw [h1] at h3 ⊢
  generalize (2 : Int) ^ i = p at *
  simp [IntKind.wrap, IntKind.bits, IntKind.signed]
  omega
/-- The greatest number of a type. -/
def maxT (t : Int) : Int := 2 ^ (if 7 ≤ t then (kT t).bits - 1 else (kT t).bits) - 1
theorem maxT_bd (t : Int) : 0 ≤ maxT t ∧ maxT t ≤ 18446744073709551615 := by
  unfold maxT
  have h : ∀ k : Nat, k ≤ 64 → (0 : Int) ≤ 2 ^ k - 1 ∧ (2 : Int) ^ k - 1 ≤ 18446744073709551615 := fun k hk => by
    have h2 : (2 : Nat) ^ k ≤ 2 ^ 64 := Nat.pow_le_pow_right (by decide) hk
    have h3 : ((2 ^ k : Nat) : Int) ≤ ((2 ^ 64 : Nat) : Int) := Int.ofNat_le.2 h2
    have h4 := one_le_pow k
    simp at h3
    omega
  have hN := bits_le (kT t)
  split
  · exact h _ (by omega)
  · exact h _ hN
set_option maxHeartbeats 2000000 in
theorem l10Max_same (t : Int) (h3 : 1 ≤ t) (h10 : t ≤ 10) (w : World) :
    Calls Tryz.prog 15 #[.int .i64 t] w fun e w' => e = .returned (.int .u64 (maxT t)) ∧ w' = w := by
  have HB := hid (l10Bits_all t h3 h10)
  have hN := bits_le (kT t)
  have HMT : Hid (maxT t = 2 ^ (if 7 ≤ t then (kT t).bits - 1 else (kT t).bits) - 1) := rfl
  obtain ⟨N, hN2⟩ : ∃ N, (kT t).bits = N := ⟨_, rfl⟩
  rw [hN2] at HB hN HMT
  have HS : Hid (∀ W, Calls Tryz.prog 27 #[.int .i64 t] W fun e w' => e = .returned (.bool (decide (7 ≤ t))) ∧ w' = W) := fun W => by
    have := l10Signed_any t W
    rwa [show (decide (7 ≤ t) && decide (t ≤ 10)) = decide (7 ≤ t) by simp [h10]] at this
  have HM : Hid (∀ n, 0 ≤ IntKind.u64.wrap n ∧ IntKind.u64.wrap n ≤ 18446744073709551615) := u64_bd
  have hN1 : 1 ≤ N := by rw [← hN2]; cases kT t <;> decide
  clear hN2
  have hNi : (N : Int) ≤ 64 := by omega
  by_cases h7 : 7 ≤ t
  · rw [if_pos h7] at HMT
    have hd : decide (7 ≤ t) = true := by simpa using h7
    rw [hd] at HS
    clear hd
    go_enter Tryz.func15, Tryz.ntmps15
    go_wp2_with fail
    refine (HB.out _).mono ?_
    rintro e w' ⟨rfl, hw⟩
    have hw2 := hw.symm
    clear hw
    subst hw2
    go_wp2_with fail
    refine (HS.out _).mono ?_
    rintro e w' ⟨rfl, hw⟩
    have hw2 := hw.symm
    clear hw
    subst hw2
    go_wp2
    go_loopw [4, 5] (fun a c wr => ∃ (m : Int) (i : Nat), a = .int .u64 m ∧ c = .int .i64 i ∧ 0 ≤ m ∧ m ≤ 18446744073709551615 ∧ i ≤ N - 1 ∧ m = 2 ^ i - 1 ∧ wr = w) (fun _ c _ => N - (intOf c).toNat)
    case atStart => exact ⟨0, 0, rfl, rfl, by omega, by omega, by omega, rfl, rfl⟩
    case round =>
      obtain ⟨m, i, rfl, rfl, m1, m2, hi, hm, rfl⟩ := hrel
      have HMI := hid hm
      clear hm
      by_cases hlt : i < N - 1
      · go_wp2
        go_roundw
        case rel => exact ⟨_, i + 1, rfl, by go_num, (HM.out _).1, (HM.out _).2, by omega, by rw [HMI.out]; exact max_step i (by omega), trivial⟩
        case measure => simp [intOf]; omega
      · have HIN : Hid (i = N - 1) := by show i = _; omega
        go_wp2
        go_ret
        exact ⟨congrArg (fun m => Ending.returned (.int .u64 m)) (by rw [HMI.out, HIN.out, HMT.out]), rfl⟩
  · rw [if_neg h7] at HMT
    have hd : decide (7 ≤ t) = false := by simpa using h7
    rw [hd] at HS
    clear hd
    go_enter Tryz.func15, Tryz.ntmps15
    go_wp2_with fail
    refine (HB.out _).mono ?_
    rintro e w' ⟨rfl, hw⟩
    have hw2 := hw.symm
    clear hw
    subst hw2
    go_wp2_with fail
    refine (HS.out _).mono ?_
    rintro e w' ⟨rfl, hw⟩
    have hw2 := hw.symm
    clear hw
    subst hw2
    go_wp2
    go_loopw [4, 5] (fun a c wr => ∃ (m : Int) (i : Nat), a = .int .u64 m ∧ c = .int .i64 i ∧ 0 ≤ m ∧ m ≤ 18446744073709551615 ∧ i ≤ N ∧ m = 2 ^ i - 1 ∧ wr = w) (fun _ c _ => N - (intOf c).toNat)
    case atStart => exact ⟨0, 0, rfl, rfl, by omega, by omega, by omega, rfl, rfl⟩
    case round =>
      obtain ⟨m, i, rfl, rfl, m1, m2, hi, hm, rfl⟩ := hrel
      have HMI := hid hm
      clear hm
      by_cases hlt : i < N
      · go_wp2
        go_roundw
        case rel => exact ⟨_, i + 1, rfl, by go_num, (HM.out _).1, (HM.out _).2, by omega, by rw [HMI.out]; exact max_step i (by omega), trivial⟩
        case measure => simp [intOf]; omega
      · have HIN : Hid (i = N) := by show i = _; omega
        go_wp2
        go_ret
        exact ⟨congrArg (fun m => Ending.returned (.int .u64 m)) (by rw [HMI.out, HIN.out, HMT.out]), rfl⟩
theorem l10Max_any (t : Int) (h3 : 1 ≤ t) (h10 : t ≤ 10) (w : World) :
    Calls Tryz.prog 15 #[.int .i64 t] w fun e w' => ∃ m : Int, e = .returned (.int .u64 m) ∧ 0 ≤ m ∧ m ≤ 18446744073709551615 ∧ Below w.heap.size w w' := by
  refine (l10Max_same t h3 h10 w).mono ?_
  rintro e w' ⟨rfl, rfl⟩
  exact ⟨_, rfl, (maxT_bd t).1, (maxT_bd t).2, Below.refl _ _⟩
end Go.Proofs.YtabefhpgeaihgaaGreatDoor.V
/-! The laws' comparison of values. -/
namespace Go.Proofs.YtabefhpgeaihgaaGreatDoor.V
open Go.RowKit Go.Shelf
set_option maxRecDepth 20000
theorem boxC {w W : World} {a b c : Value} {ty : TypeId} (h : Below (w.heap.size + 1) (w.alloc (.cells #[a, b, c] ty)) W) : W.cell? ⟨w.heap.size, 0, none⟩ = some a ∧ W.cell? ⟨w.heap.size, 1, none⟩ = some b ∧ W.cell? ⟨w.heap.size, 2, none⟩ = some c :=
  cells_at h (by omega) (heap_new w _)
end Go.Proofs.YtabefhpgeaihgaaGreatDoor.V
/-! What fits a built word: the model's. Printed by gen_vfit.py. -/
namespace Go.Proofs.YtabefhpgeaihgaaGreatDoor.V
open Go.RowKit Go.Shelf
set_option maxRecDepth 20000
/-- What a built word wants, and gives; 'any' for any integer type. -/
def wants (any op : Int) : List Int := if op = 6 then [2] else if op = 7 then [2, 10] else if op = 8 then [2, 10, 10] else if op = 9 then [2, 2] else if op = 10 then [3] else if op = 11 then [any] else [2]
def gives (op : Int) : Int := if op = 6 then 10 else if op = 7 then 3 else if op = 8 then 2 else if op = 9 then 10 else if op = 10 then 2 else if op = 11 then 2 else 10
/-- A type fits what is wanted. -/
def fit1 (any w t : Int) : Prop := t = w ∨ (w = any ∧ 3 ≤ t ∧ t ≤ 10)
instance (any w t : Int) : Decidable (fit1 any w t) := by unfold fit1; infer_instance
def FitL (any : Int) (wl ts : List Int) : Prop := wl.length = ts.length ∧ ∀ i, i < ts.length → fit1 any (wl.getD i 0) (ts.getD i 0)
/-- Numbers that lie in a slice. -/
def IntsIn (W : World) (g : Nat) (ts : List Int) : Prop := ∀ i, i < ts.length → W.cell? ⟨g, i, none⟩ = some (.int .i64 (ts.getD i 0))
theorem IntsIn.next {W V : World} {g : Nat} {ts : List Int} (h : IntsIn W g ts) (hg : g < W.heap.size) (hb : Below W.heap.size W V) : IntsIn V g ts := fun i hi => (hb.cell (p := ⟨g, i, none⟩) hg).trans (h i hi)
theorem lit_ints (w : World) (cs : Array Value) (ts : List Int) (e : cs = (ts.map fun t => Value.int .i64 t).toArray) (ty : TypeId) : IntsIn (w.alloc (.cells cs ty)) w.heap.size ts := fun i hi => by
  have h : (w.alloc (.cells cs ty)).heap[w.heap.size]? = some (.cells cs ty) := heap_new w _
  unfold World.cell?
  rw [h, e]
  simp [hi]
theorem FitL.more {any : Int} {wl ts : List Int} (h : wl.length = ts.length) (hi : ∀ i, i < ts.length → fit1 any (wl.getD i 0) (ts.getD i 0)) : FitL any wl ts := ⟨h, hi⟩
end Go.Proofs.YtabefhpgeaihgaaGreatDoor.V
