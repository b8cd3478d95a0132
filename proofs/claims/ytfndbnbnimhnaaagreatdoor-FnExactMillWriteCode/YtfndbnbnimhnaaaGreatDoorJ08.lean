import Derived.Test.YtfndbnbnimhnaaaGreatDoorJ07
/-! The program's millIsName, millIsType, millIsInteger. -/
namespace Go.Proofs.YtfndbnbnimhnaaaGreatDoor.Q
open Go.RowKit Go.Shelf
set_option maxRecDepth 20000
theorem run_full (s : ByteArray) : run letB s.data.toList = s.size ↔ ∀ i (h : i < s.size), letB s[i] = true := by
  constructor
  · intro h i hi
    exact run_all letB s.data.toList s.size (by omega) i hi (by rw [len_size]; exact hi)
  · intro h
    by_cases hl : run letB s.data.toList = s.size
    · exact hl
    · exfalso
      have h1 := run_le letB s.data.toList
      rw [len_size] at h1
      have h2 : run letB s.data.toList < s.data.toList.length := by rw [len_size]; omega
      have := run_step letB s.data.toList _ (Nat.le_refl _) h2 (h _ (by omega))
      omega
theorem name_iff (s : ByteArray) (h0 : 0 < s.size) : NameOk s ↔ s.size ≤ 30 ∧ run letB s.data.toList = s.size ∧ mlt (s[0].toNat : Int) = true ∧ ¬ s.data.toList ∈ mws := by
  rw [run_full]
  constructor
  · rintro ⟨_, h1, h2, h3, h4⟩
    exact ⟨h1, h4, h2, h3⟩
  · rintro ⟨h1, h2, h3, h4⟩
    exact ⟨h0, h1, h3, h4, h2⟩
set_option maxHeartbeats 400000 in
theorem millIsInteger_int (t : Int) (w : World) :
    Calls Tryz.prog 141 #[.int .i64 t] w fun e w' => e = .returned (.bool (decide (3 ≤ t) && decide (t ≤ 10))) ∧ w' = w := by
  go_enter Tryz.func141, Tryz.ntmps141
  go_wp2
  all_goals go_ret
  all_goals exact ⟨ret_bool (by rw [Bool.eq_iff_iff]; simp; try omega), rfl⟩
set_option maxHeartbeats 400000 in
theorem millIsType_int (t : Int) (w : World) :
    Calls Tryz.prog 118 #[.int .i64 t] w fun e w' => e = .returned (.bool (decide (1 ≤ t) && decide (t ≤ 10))) ∧ w' = w := by
  go_enter Tryz.func118, Tryz.ntmps118
  go_wp2
  all_goals go_ret
  all_goals exact ⟨ret_bool (by rw [Bool.eq_iff_iff]; simp; try omega), rfl⟩
set_option maxHeartbeats 1000000 in
theorem isName_at (s : ByteArray) (r : Nat) (w : World) (hs : s.size ≤ maxLen) (hr : w.heap[r]? = some (.map (mwE 35) 35)) :
    Calls Tryz.prog 94 #[.string s, .map (some r)] w fun e w' => Says e (NameOk s) ∧ Below w.heap.size w w' := by
  unfold maxLen at hs
  have hrl : r < w.heap.size := (Array.getElem?_eq_some_iff.1 hr).1
  have HR : Hid (∀ W, Below w.heap.size w W → W.heap[r]? = some (.map (mwE 35) 35)) := fun W hb => (hb.block r hrl).trans hr
  clear hr hrl
  by_cases h0 : s.size = 0
  · have HN : Hid (¬ NameOk s) := fun ⟨h, _⟩ => by omega
    have he : s = ⟨#[]⟩ := ByteArray.ext (Array.eq_empty_of_size_eq_zero h0)
    subst he
    go_enter Tryz.func94, Tryz.ntmps94
    go_wp2
    go_ret
    exact ⟨says_f HN.out, Below.refl _ _⟩
  · have hp : 0 < s.size := by omega
    have HI := hid (name_iff s hp)
    have hq := notEmpty s hp
    have hwc : IntKind.i32.wrap (s[0].toNat : Int) = (s[0].toNat : Int) := by have := s[0].toNat_lt; rw [IntKind.wrap_i32]; omega
    by_cases h30 : s.size ≤ 30
    · have hrl := run_le letB s.data.toList
      rw [len_size] at hrl
      have HNS : Hid (∀ W : World, Calls Tryz.prog 115 #[.string s] W fun e w' => e = .returned (.int .i64 (run letB s.data.toList)) ∧ Below W.heap.size W w') := fun W => millNameSize_any s W (by omega)
      obtain ⟨k, hk⟩ : ∃ k, run letB s.data.toList = k := ⟨_, rfl⟩
      rw [hk] at hrl HNS
      have HK := hid hk
      clear hk
      by_cases hks : k = s.size
      · subst hks
        cases hd : mlt (s[0].toNat : Int)
        · have HF : Hid (¬ NameOk s) := fun h => by have := (HI.out.1 h).2.2.1; rw [hd] at this; cases this
          go_enter Tryz.func94, Tryz.ntmps94
          go_wp2_with (first
            | (go_at_call 115; refine (HNS.out _).mono ?_; rintro e w1 ⟨rfl, hb1⟩; have HB1 := hid hb1; clear hb1)
            | (go_at_call 116; refine (millIsLetter_any _ _).mono ?_; rintro e w' ⟨rfl, hw⟩; have hw2 := hw.symm; clear hw; subst hw2; rw [hd]))
          all_goals go_ret
          all_goals exact ⟨says_f HF.out, HB1.out⟩
        · by_cases hm : s.data.toList ∈ mws
          · have HD : Hid (decide (s.data.toList ∈ mws) = true) := decide_eq_true hm
            have HM := hid hm
            clear hm
            go_enter Tryz.func94, Tryz.ntmps94
            go_wp2_with (first
              | (go_at_call 115; refine (HNS.out _).mono ?_; rintro e w1 ⟨rfl, hb1⟩; have HB1 := hid hb1; have hlk := mlookup2 w1 r (HR.out _ hb1) s; rw [HD.out] at hlk; clear hb1)
              | (go_at_call 116; refine (millIsLetter_any _ _).mono ?_; rintro e w' ⟨rfl, hw⟩; have hw2 := hw.symm; clear hw; subst hw2; rw [hd]))
            all_goals go_ret
            all_goals exact ⟨says_f (fun h => (HI.out.1 h).2.2.2 HM.out), HB1.out⟩
          · have HD : Hid (decide (s.data.toList ∈ mws) = false) := decide_eq_false hm
            have HM := hid hm
            clear hm
            go_enter Tryz.func94, Tryz.ntmps94
            go_wp2_with (first
              | (go_at_call 115; refine (HNS.out _).mono ?_; rintro e w1 ⟨rfl, hb1⟩; have HB1 := hid hb1; have hlk := mlookup2 w1 r (HR.out _ hb1) s; rw [HD.out] at hlk; clear hb1)
              | (go_at_call 116; refine (millIsLetter_any _ _).mono ?_; rintro e w' ⟨rfl, hw⟩; have hw2 := hw.symm; clear hw; subst hw2; rw [hd]))
            all_goals go_ret
            all_goals exact ⟨says_t (HI.out.2 ⟨h30, HK.out, hd, HM.out⟩), HB1.out⟩
      · have HF : Hid (¬ NameOk s) := fun h => by have := (HI.out.1 h).2.1; rw [HK.out] at this; exact hks this
        have hlt : k < s.size := by omega
        go_enter Tryz.func94, Tryz.ntmps94
        go_wp2_with (go_at_call 115; refine (HNS.out _).mono ?_; rintro e w1 ⟨rfl, hb1⟩; have HB1 := hid hb1; clear hb1)
        all_goals go_ret
        all_goals exact ⟨says_f HF.out, HB1.out⟩
    · have HF : Hid (¬ NameOk s) := fun h => h30 (HI.out.1 h).1
      go_enter Tryz.func94, Tryz.ntmps94
      go_wp2
      go_ret
      exact ⟨says_f HF.out, Below.refl _ _⟩
end Go.Proofs.YtfndbnbnimhnaaaGreatDoor.Q
/-! The model's l10NameOk, l10Integer, l10BuiltWord. -/
namespace Go.Proofs.YtfndbnbnimhnaaaGreatDoor.Q
open Go.RowKit Go.Shelf
set_option maxRecDepth 20000
set_option maxHeartbeats 1000000 in
theorem l10NameOk_any (s : ByteArray) (w : World) (hs : s.size ≤ maxLen) :
    Calls Tryz.prog 107 #[.string s] w fun e w' => Says e (NameOk s) ∧ Below w.heap.size w w' := by
  unfold maxLen at hs
  by_cases h1 : 1 ≤ s.size
  · by_cases h2 : s.size ≤ 30
    · have h0 : 0 < s.size := h1
      cases hb : mlt (s[0].toNat : Int)
      · have HE : Hid (¬ NameOk s) := fun ⟨_, _, h, _⟩ => by unfold mltB at h; rw [hb] at h; cases h
        go_enter Tryz.func107, Tryz.ntmps107
        go_wp2_with (go_at_call 134; refine (l10Letter_any _ _).mono ?_; rintro e w' ⟨rfl, rfl⟩)
        go_ret
        exact ⟨says_f HE.out, Below.refl _ _⟩
      · by_cases hw : s.data.toList ∈ mws
        · have HE : Hid (¬ NameOk s) := fun ⟨_, _, _, h, _⟩ => h hw
          have HW : Hid (decide (s.data.toList ∈ mws) = true) := by show _ = _; simp [hw]
          clear hw
          go_enter Tryz.func107, Tryz.ntmps107
          go_wp2_with (first
            | (go_at_call 134; refine (l10Letter_any _ _).mono ?_; rintro e w' ⟨rfl, hw⟩; have hw2 := hw.symm; clear hw; subst hw2)
            | (go_at_call 135; refine (l10Taken_any s _).mono ?_; rintro e w1 ⟨rfl, hb1⟩; have HB1 := hid hb1; clear hb1; rw [HW.out]))
          go_ret
          exact ⟨says_f HE.out, HB1.out⟩
        · have HNW := hid hw
          have HW : Hid (decide (s.data.toList ∈ mws) = false) := by show _ = _; simp [hw]
          clear hw
          go_enter Tryz.func107, Tryz.ntmps107
          go_wp2_with (first
            | (go_at_call 134; refine (l10Letter_any _ _).mono ?_; rintro e w' ⟨rfl, hw⟩; have hw2 := hw.symm; clear hw; subst hw2)
            | (go_at_call 135; refine (l10Taken_any s _).mono ?_; rintro e w1 ⟨rfl, hb1⟩; have HB1 := hid hb1; clear hb1; rw [HW.out]))
          go_loop [3] (fun i => ∃ k : Nat, k ≤ s.size ∧ i = .int .i64 k ∧ ∀ j (h : j < s.size), j < k → letB s[j] = true) (fun i => s.size - (intOf i).toNat)
          case atStart => exact ⟨0, Nat.zero_le _, rfl, fun j h h0 => absurd h0 (Nat.not_lt_zero _)⟩
          case round =>
            obtain ⟨k, hk, rfl, hr⟩ := hrel
            have HR := hid hr
            clear hr
            by_cases hlt : k < s.size
            · cases hp : let_ (s[k].toNat : Int)
              · have HE : Hid (¬ NameOk s) := fun ⟨_, _, _, _, h⟩ => by have := h k hlt; unfold letB at this; rw [hp] at this; cases this
                go_wp2_with (go_at_call 136; refine (l10Tail_any _ _).mono ?_; rintro e w' ⟨rfl, hw⟩; have hw2 := hw.symm; clear hw; subst hw2)
                go_ret
                exact ⟨says_f HE.out, HB1.out⟩
              · have NX : Hid (∀ j (h : j < s.size), j < k + 1 → letB s[j] = true) := fun j h hj => by
                  rcases Nat.lt_or_eq_of_le (Nat.lt_succ_iff.1 hj) with h' | h'
                  · exact HR.out j h h'
                  · subst h'; exact hp
                go_wp2_with (go_at_call 136; refine (l10Tail_any _ _).mono ?_; rintro e w' ⟨rfl, hw⟩; have hw2 := hw.symm; clear hw; subst hw2)
                go_round
                case rel => exact ⟨k + 1, by omega, by go_num, NX.out⟩
                case measure => simp [intOf]; omega
            · go_wp2
              go_ret
              exact ⟨says_t ⟨h0, h2, hb, HNW.out, fun i h => HR.out i h (by omega)⟩, HB1.out⟩
    · have HE : Hid (¬ NameOk s) := fun ⟨_, h, _⟩ => h2 h
      go_enter Tryz.func107, Tryz.ntmps107
      go_wp2
      go_ret
      exact ⟨says_f HE.out, Below.refl _ _⟩
  · have HE : Hid (¬ NameOk s) := fun ⟨h, _⟩ => by omega
    go_enter Tryz.func107, Tryz.ntmps107
    go_wp2
    go_ret
    exact ⟨says_f HE.out, Below.refl _ _⟩
end Go.Proofs.YtfndbnbnimhnaaaGreatDoor.Q
