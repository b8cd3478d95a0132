import Derived.Test.YtjbhadpdbcelcaaDoorQBS
/-! The model's l10NameOk, l10Integer, l10BuiltWord. -/
namespace Go.Proofs.YtjbhadpdbcelcaaDoor.Q
open Go.RowKit Go.Shelf
set_option maxRecDepth 20000
set_option maxHeartbeats 400000 in
theorem l10Integer_int (t : Int) (w : World) :
    Calls Tryd.prog 23 #[.int .i64 t] w fun e w' => e = .returned (.bool (decide (3 ≤ t) && decide (t ≤ 10))) ∧ w' = w := by
  go_enter Tryd.func23, Tryd.ntmps23
  go_wp2
  all_goals go_ret
  all_goals exact ⟨ret_bool (by rw [Bool.eq_iff_iff]; simp; try omega), rfl⟩
set_option maxHeartbeats 1000000 in
theorem l10BuiltWord_kids (t : Int) (h1 : 1 ≤ t) (h2 : t ≤ 12) (w : World) :
    Calls Tryd.prog 27 #[.int .i64 t] w fun e w' => (∃ s, e = .returned (.tuple #[.string s, .int .i64 (builtKids t)])) ∧ w' = w := by
  obtain rfl | rfl | rfl | rfl | rfl | rfl | rfl | rfl | rfl | rfl | rfl | rfl : t = 1 ∨ t = 2 ∨ t = 3 ∨ t = 4 ∨ t = 5 ∨ t = 6 ∨ t = 7 ∨ t = 8 ∨ t = 9 ∨ t = 10 ∨ t = 11 ∨ t = 12 := by omega
  all_goals go_enter Tryd.func27, Tryd.ntmps27
  all_goals go_wp2
  all_goals go_ret2
  all_goals exact ⟨⟨_, rfl⟩, rfl⟩
set_option maxHeartbeats 1000000 in
theorem l10NameOk_any (s : ByteArray) (w : World) (hs : s.size ≤ maxLen) :
    Calls Tryd.prog 22 #[.string s] w fun e w' => Says e (NameOk s) ∧ Below w.heap.size w w' := by
  unfold maxLen at hs
  by_cases h1 : 1 ≤ s.size
  · by_cases h2 : s.size ≤ 30
    · have h0 : 0 < s.size := h1
      cases hb : mlt (s[0].toNat : Int)
      · have HE : Hid (¬ NameOk s) := fun ⟨_, _, h, _⟩ => by unfold mltB at h; rw [hb] at h; cases h
        go_enter Tryd.func22, Tryd.ntmps22
        go_wp2_with (go_at_call 38; refine (l10Letter_any _ _).mono ?_; rintro e w' ⟨rfl, rfl⟩)
        go_ret
        exact ⟨says_f HE.out, Below.refl _ _⟩
      · by_cases hw : s.data.toList ∈ mws
        · have HE : Hid (¬ NameOk s) := fun ⟨_, _, _, h, _⟩ => h hw
          have HW : Hid (decide (s.data.toList ∈ mws) = true) := by show _ = _; simp [hw]
          clear hw
          go_enter Tryd.func22, Tryd.ntmps22
          go_wp2_with (first
            | (go_at_call 38; refine (l10Letter_any _ _).mono ?_; rintro e w' ⟨rfl, hw⟩; have hw2 := hw.symm; clear hw; subst hw2)
            | (go_at_call 39; refine (l10Taken_any s _).mono ?_; rintro e w1 ⟨rfl, hb1⟩; have HB1 := hid hb1; clear hb1; rw [HW.out]))
          go_ret
          exact ⟨says_f HE.out, HB1.out⟩
        · have HNW := hid hw
          have HW : Hid (decide (s.data.toList ∈ mws) = false) := by show _ = _; simp [hw]
          clear hw
          go_enter Tryd.func22, Tryd.ntmps22
          go_wp2_with (first
            | (go_at_call 38; refine (l10Letter_any _ _).mono ?_; rintro e w' ⟨rfl, hw⟩; have hw2 := hw.symm; clear hw; subst hw2)
            | (go_at_call 39; refine (l10Taken_any s _).mono ?_; rintro e w1 ⟨rfl, hb1⟩; have HB1 := hid hb1; clear hb1; rw [HW.out]))
          go_loop [3] (fun i => ∃ k : Nat, k ≤ s.size ∧ i = .int .i64 k ∧ ∀ j (h : j < s.size), j < k → letB s[j] = true) (fun i => s.size - (intOf i).toNat)
          case atStart => exact ⟨0, Nat.zero_le _, rfl, fun j h h0 => absurd h0 (Nat.not_lt_zero _)⟩
          case round =>
            obtain ⟨k, hk, rfl, hr⟩ := hrel
            have HR := hid hr
            clear hr
            by_cases hlt : k < s.size
            · cases hp : let_ (s[k].toNat : Int)
              · have HE : Hid (¬ NameOk s) := fun ⟨_, _, _, _, h⟩ => by have := h k hlt; unfold letB at this; rw [hp] at this; cases this
                go_wp2_with (go_at_call 40; refine (l10Tail_any _ _).mono ?_; rintro e w' ⟨rfl, hw⟩; have hw2 := hw.symm; clear hw; subst hw2)
                go_ret
                exact ⟨says_f HE.out, HB1.out⟩
              · have NX : Hid (∀ j (h : j < s.size), j < k + 1 → letB s[j] = true) := fun j h hj => by
                  rcases Nat.lt_or_eq_of_le (Nat.lt_succ_iff.1 hj) with h' | h'
                  · exact HR.out j h h'
                  · subst h'; exact hp
                go_wp2_with (go_at_call 40; refine (l10Tail_any _ _).mono ?_; rintro e w' ⟨rfl, hw⟩; have hw2 := hw.symm; clear hw; subst hw2)
                go_round
                case rel => exact ⟨k + 1, by omega, by go_num, NX.out⟩
                case measure => simp [intOf]; omega
            · go_wp2
              go_ret
              exact ⟨says_t ⟨h0, h2, hb, HNW.out, fun i h => HR.out i h (by omega)⟩, HB1.out⟩
    · have HE : Hid (¬ NameOk s) := fun ⟨_, h, _⟩ => h2 h
      go_enter Tryd.func22, Tryd.ntmps22
      go_wp2
      go_ret
      exact ⟨says_f HE.out, Below.refl _ _⟩
  · have HE : Hid (¬ NameOk s) := fun ⟨h, _⟩ => by omega
    go_enter Tryd.func22, Tryd.ntmps22
    go_wp2
    go_ret
    exact ⟨says_f HE.out, Below.refl _ _⟩
end Go.Proofs.YtjbhadpdbcelcaaDoor.Q
