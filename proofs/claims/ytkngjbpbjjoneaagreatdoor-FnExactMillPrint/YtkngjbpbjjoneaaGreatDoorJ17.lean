import Derived.Test.YtkngjbpbjjoneaaGreatDoorJ10
/-! Printed by gen_fit.py. -/
namespace Go.Proofs.YtkngjbpbjjoneaaGreatDoor.Q
open Go.RowKit Go.Shelf
set_option maxRecDepth 20000
set_option maxHeartbeats 4000000 in
theorem fit_12 : FI 12 := by
  intro op ty n kids t g m c kd w hm h8 hg hs
  have HB0 := hid ((Below.refl w.heap.size w).alloc (Nat.le_refl _) (.cells #[.int .i64 12, .int .i64 op, .int .i64 ty, .int .i64 n, .string t, .int .i64 kids] 63))
  have HS := hid (hs.below HB0.out hg)
  have HK := hid (ko_12 op ty n kids t m kd)
  unfold ndV
  clear hs h8
  by_cases h2 : m = 2
  · subst h2
    have c0 := HS.out 0 (by omega)
    have c1 := HS.out 1 (by omega)
    cases hE : (decide (1 ≤ kd 0) && decide (kd 0 ≤ 9))
    · have HN : Hid (¬ KidsOk ⟨12, op, ty, n, t, kids⟩ 2 kd) := fun h => by have := (eBool _).2 (HK.out.1 h).2.1; rw [hE] at this; cases this
      go_enter Tryz.func22, Tryz.ntmps22
      go_wp2_with (go_at_call 42; refine (l11E_any _ _).mono ?_; rintro e w' ⟨rfl, hw⟩; have hw2 := hw.symm; clear hw; subst hw2; rw [hE])
      go_ret
      exact ⟨says_f HN.out, HB0.out⟩
    · have HE := hid ((eBool _).1 hE)
      by_cases h1 : kd 1 = 21
      · have e1 : (kd 1 == 21) = true := by rw [h1]; rfl
        have HY := hid (HK.out.2 ⟨by simp, HE.out, h1, fun h => by omega⟩)
        clear h1
        go_enter Tryz.func22, Tryz.ntmps22
        go_wp2_with (go_at_call 42; refine (l11E_any _ _).mono ?_; rintro e w' ⟨rfl, hw⟩; have hw2 := hw.symm; clear hw; subst hw2; rw [hE])
        go_ret
        exact ⟨says_t HY.out, HB0.out⟩
      · have e1 : (kd 1 == 21) = false := by rw [beq_eq_false_iff_ne]; exact h1
        have HN := hid (fun h => h1 (HK.out.1 h).2.2.1)
        clear h1
        go_enter Tryz.func22, Tryz.ntmps22
        go_wp2_with (go_at_call 42; refine (l11E_any _ _).mono ?_; rintro e w' ⟨rfl, hw⟩; have hw2 := hw.symm; clear hw; subst hw2; rw [hE])
        go_ret
        exact ⟨says_f HN.out, HB0.out⟩
  · by_cases h3 : m = 3
    · subst h3
      have c0 := HS.out 0 (by omega)
      have c1 := HS.out 1 (by omega)
      have c2 := HS.out 2 (by omega)
      cases hE : (decide (1 ≤ kd 0) && decide (kd 0 ≤ 9))
      · have HN : Hid (¬ KidsOk ⟨12, op, ty, n, t, kids⟩ 3 kd) := fun h => by have := (eBool _).2 (HK.out.1 h).2.1; rw [hE] at this; cases this
        go_enter Tryz.func22, Tryz.ntmps22
        go_wp2_with (go_at_call 42; refine (l11E_any _ _).mono ?_; rintro e w' ⟨rfl, hw⟩; have hw2 := hw.symm; clear hw; subst hw2; rw [hE])
        go_ret
        exact ⟨says_f HN.out, HB0.out⟩
      · have HE := hid ((eBool _).1 hE)
        by_cases h1 : kd 1 = 21
        · have e1 : (kd 1 == 21) = true := by rw [h1]; rfl
          have H1 := hid h1
          clear h1
          by_cases h4 : kd 2 = 21
          · have e2 : (kd 2 == 21) = true := by rw [h4]; rfl
            have HY := hid (HK.out.2 ⟨by simp, HE.out, H1.out, fun _ => .inl h4⟩)
            clear h4
            go_enter Tryz.func22, Tryz.ntmps22
            go_wp2_with (go_at_call 42; refine (l11E_any _ _).mono ?_; rintro e w' ⟨rfl, hw⟩; have hw2 := hw.symm; clear hw; subst hw2; rw [hE])
            go_ret
            exact ⟨says_t HY.out, HB0.out⟩
          · have e2 : (kd 2 == 21) = false := by rw [beq_eq_false_iff_ne]; exact h4
            by_cases h5 : kd 2 = 12
            · have e3 : (kd 2 == 12) = true := by rw [h5]; rfl
              have HY := hid (HK.out.2 ⟨by simp, HE.out, H1.out, fun _ => .inr h5⟩)
              clear h4 h5
              go_enter Tryz.func22, Tryz.ntmps22
              go_wp2_with (go_at_call 42; refine (l11E_any _ _).mono ?_; rintro e w' ⟨rfl, hw⟩; have hw2 := hw.symm; clear hw; subst hw2; rw [hE])
              go_ret
              exact ⟨says_t HY.out, HB0.out⟩
            · have e3 : (kd 2 == 12) = false := by rw [beq_eq_false_iff_ne]; exact h5
              have HN : Hid (¬ KidsOk ⟨12, op, ty, n, t, kids⟩ 3 kd) := fun h => by
                rcases (HK.out.1 h).2.2.2 rfl with h' | h'
                · exact h4 h'
                · exact h5 h'
              clear h4 h5
              go_enter Tryz.func22, Tryz.ntmps22
              go_wp2_with (go_at_call 42; refine (l11E_any _ _).mono ?_; rintro e w' ⟨rfl, hw⟩; have hw2 := hw.symm; clear hw; subst hw2; rw [hE])
              go_ret
              exact ⟨says_f HN.out, HB0.out⟩
        · have e1 : (kd 1 == 21) = false := by rw [beq_eq_false_iff_ne]; exact h1
          have HN := hid (fun h => h1 (HK.out.1 h).2.2.1)
          clear h1
          go_enter Tryz.func22, Tryz.ntmps22
          go_wp2_with (go_at_call 42; refine (l11E_any _ _).mono ?_; rintro e w' ⟨rfl, hw⟩; have hw2 := hw.symm; clear hw; subst hw2; rw [hE])
          go_ret
          exact ⟨says_f HN.out, HB0.out⟩
    · have HN : Hid (¬ KidsOk ⟨12, op, ty, n, t, kids⟩ m kd) := fun h => by
        rcases (HK.out.1 h).1 with h' | h'
        · exact h2 h'
        · exact h3 h'
      by_cases h4 : m < 2
      · have h5 : ¬ (2 : Int) ≤ m := by omega
        go_enter Tryz.func22, Tryz.ntmps22
        go_wp2
        go_ret
        exact ⟨says_f HN.out, HB0.out⟩
      · have h5 : (2 : Int) ≤ m := by omega
        have h6 : ¬ (m : Int) ≤ 3 := by omega
        go_enter Tryz.func22, Tryz.ntmps22
        go_wp2
        go_ret
        exact ⟨says_f HN.out, HB0.out⟩
set_option maxHeartbeats 4000000 in
theorem fit_13 : FI 13 := by
  intro op ty n kids t g m c kd w hm h8 hg hs
  have HB0 := hid ((Below.refl w.heap.size w).alloc (Nat.le_refl _) (.cells #[.int .i64 13, .int .i64 op, .int .i64 ty, .int .i64 n, .string t, .int .i64 kids] 63))
  have HS := hid (hs.below HB0.out hg)
  have HK := hid (ko_13 op ty n kids t m kd)
  unfold ndV
  clear hs h8
  by_cases h2 : m = 2
  · subst h2
    have c0 := HS.out 0 (by omega)
    have c1 := HS.out 1 (by omega)
    cases hE : (decide (1 ≤ kd 0) && decide (kd 0 ≤ 9))
    · have HN : Hid (¬ KidsOk ⟨13, op, ty, n, t, kids⟩ 2 kd) := fun h => by have := (eBool _).2 (HK.out.1 h).2.1; rw [hE] at this; cases this
      go_enter Tryz.func22, Tryz.ntmps22
      go_wp2_with (go_at_call 42; refine (l11E_any _ _).mono ?_; rintro e w' ⟨rfl, hw⟩; have hw2 := hw.symm; clear hw; subst hw2; rw [hE])
      go_ret
      exact ⟨says_f HN.out, HB0.out⟩
    · have HE := hid ((eBool _).1 hE)
      by_cases h1 : kd 1 = 21
      · have e1 : (kd 1 == 21) = true := by rw [h1]; rfl
        have HY := hid (HK.out.2 ⟨by simp, HE.out, h1⟩)
        clear h1
        go_enter Tryz.func22, Tryz.ntmps22
        go_wp2_with (go_at_call 42; refine (l11E_any _ _).mono ?_; rintro e w' ⟨rfl, hw⟩; have hw2 := hw.symm; clear hw; subst hw2; rw [hE])
        go_ret
        exact ⟨says_t HY.out, HB0.out⟩
      · have e1 : (kd 1 == 21) = false := by rw [beq_eq_false_iff_ne]; exact h1
        have HN := hid (fun h => h1 (HK.out.1 h).2.2)
        clear h1
        go_enter Tryz.func22, Tryz.ntmps22
        go_wp2_with (go_at_call 42; refine (l11E_any _ _).mono ?_; rintro e w' ⟨rfl, hw⟩; have hw2 := hw.symm; clear hw; subst hw2; rw [hE])
        go_ret
        exact ⟨says_f HN.out, HB0.out⟩
  · have hq : ((m : Int) == 2) = false := by rw [beq_eq_false_iff_ne]; omega
    have HN := hid (fun h => h2 (HK.out.1 h).1)
    clear h2
    go_enter Tryz.func22, Tryz.ntmps22
    go_wp2
    go_ret
    exact ⟨says_f HN.out, HB0.out⟩
set_option maxHeartbeats 4000000 in
theorem fit_20 : FI 20 := by
  intro op ty n kids t g m c kd w hm h8 hg hs
  have HB0 := hid ((Below.refl w.heap.size w).alloc (Nat.le_refl _) (.cells #[.int .i64 20, .int .i64 op, .int .i64 ty, .int .i64 n, .string t, .int .i64 kids] 63))
  have HS := hid (hs.below HB0.out hg)
  have HK := hid (ko_20 op ty n kids t m kd)
  unfold ndV
  clear hs h8
  by_cases h0 : m = 1
  · subst h0
    have c0 := HS.out 0 (by omega)
    by_cases h1 : kd 0 = 7
    · have e1 : (kd 0 == 7) = true := by rw [h1]; rfl
      have HY := hid (HK.out.2 ⟨by simp, h1⟩)
      clear h1
      go_enter Tryz.func22, Tryz.ntmps22
      go_wp2
      go_ret
      exact ⟨says_t HY.out, HB0.out⟩
    · have e1 : (kd 0 == 7) = false := by rw [beq_eq_false_iff_ne]; exact h1
      have HN := hid (fun h => h1 (HK.out.1 h).2)
      clear h1
      go_enter Tryz.func22, Tryz.ntmps22
      go_wp2
      go_ret
      exact ⟨says_f HN.out, HB0.out⟩
  · have hq : ((m : Int) == 1) = false := by rw [beq_eq_false_iff_ne]; omega
    have HN := hid (fun h => h0 (HK.out.1 h).1)
    clear h0
    go_enter Tryz.func22, Tryz.ntmps22
    go_wp2
    go_ret
    exact ⟨says_f HN.out, HB0.out⟩
end Go.Proofs.YtkngjbpbjjoneaaGreatDoor.Q
/-! Printed by gen_fit.py. -/
namespace Go.Proofs.YtkngjbpbjjoneaaGreatDoor.Q
open Go.RowKit Go.Shelf
set_option maxRecDepth 20000
set_option maxHeartbeats 4000000 in
theorem fit_21 : FI 21 := by
  intro op ty n kids t g m c kd w hm h8 hg hs
  have HB0 := hid ((Below.refl w.heap.size w).alloc (Nat.le_refl _) (.cells #[.int .i64 21, .int .i64 op, .int .i64 ty, .int .i64 n, .string t, .int .i64 kids] 63))
  have HS := hid (hs.below HB0.out hg)
  have HK := hid (ko_21 op ty n kids t m kd)
  unfold ndV
  clear hs h8
  go_enter Tryz.func22, Tryz.ntmps22
  go_wp2
  go_loop [8] (fun i => ∃ j : Nat, j ≤ m ∧ i = .int .i64 j ∧ ∀ i, i < j → mS (kd i)) (fun i => m - (intOf i).toNat)
  case atStart => exact ⟨0, Nat.zero_le _, rfl, fun i h => absurd h (Nat.not_lt_zero _)⟩
  case round =>
    obtain ⟨j, hj, rfl, hin⟩ := hrel
    have HIN := hid hin
    clear hin
    by_cases hlt : j < m
    · have c0 := HS.out j hlt
      cases hE : (decide (10 ≤ kd j) && decide (kd j ≤ 20))
      · have HF : Hid (¬ KidsOk ⟨21, op, ty, n, t, kids⟩ m kd) := fun h => by have := (sBool _).2 (HK.out.1 h j hlt); rw [hE] at this; cases this
        go_wp2_with (go_at_call 45; refine (l11S_any _ _).mono ?_; rintro e w' ⟨rfl, hw⟩; have hw2 := hw.symm; clear hw; subst hw2; rw [hE])
        go_ret
        exact ⟨says_f HF.out, HB0.out⟩
      · have HX := hid (all_step (P := fun i => mS (kd i)) HIN.out ((sBool _).1 hE))
        go_wp2_with (go_at_call 45; refine (l11S_any _ _).mono ?_; rintro e w' ⟨rfl, hw⟩; have hw2 := hw.symm; clear hw; subst hw2; rw [hE])
        go_round
        case rel => exact ⟨j + 1, by omega, by go_num, HX.out⟩
        case measure => simp [intOf]; omega
    · obtain rfl : j = m := by omega
      go_wp2
      go_ret
      exact ⟨says_t (HK.out.2 HIN.out), HB0.out⟩
set_option maxHeartbeats 4000000 in
theorem fit_23 : FI 23 := by
  intro op ty n kids t g m c kd w hm h8 hg hs
  have HB0 := hid ((Below.refl w.heap.size w).alloc (Nat.le_refl _) (.cells #[.int .i64 23, .int .i64 op, .int .i64 ty, .int .i64 n, .string t, .int .i64 kids] 63))
  have HS := hid (hs.below HB0.out hg)
  have HK := hid (ko_23 op ty n kids t m kd)
  unfold ndV
  clear hs h8
  go_enter Tryz.func22, Tryz.ntmps22
  go_wp2
  go_loop [9] (fun i => ∃ j : Nat, j ≤ m - 1 ∧ i = .int .i64 j ∧ ∀ i, i < j → kd i = 22) (fun i => m - (intOf i).toNat)
  case atStart => exact ⟨0, Nat.zero_le _, rfl, fun i h => absurd h (Nat.not_lt_zero _)⟩
  case round =>
    obtain ⟨j, hj, rfl, hin⟩ := hrel
    have HIN := hid hin
    clear hin
    by_cases hlt : j + 1 < m
    · have c0 := HS.out j (by omega)
      by_cases hE : kd j = 22
      · have e0 : (kd j != 22) = false := by rw [hE]; rfl
        have HX := hid (all_step (P := fun i => kd i = 22) HIN.out hE)
        clear hE
        go_wp2
        go_round
        case rel => exact ⟨j + 1, by omega, by go_num, HX.out⟩
        case measure => simp [intOf]; omega
      · have e0 : (kd j != 22) = true := by rw [bne_iff_ne]; exact hE
        have HF := hid (fun h => hE ((HK.out.1 h).2.2.1 j hlt))
        clear hE
        go_wp2
        go_ret
        exact ⟨says_f HF.out, HB0.out⟩
    · have hlt' : ¬ (j : Int) + 1 < m := by omega
      by_cases h1 : 1 ≤ m
      · have h1' : (1 : Int) ≤ m := by omega
        by_cases h9 : m ≤ 9
        · have h9' : (m : Int) - 1 ≤ 8 := by omega
          have c0 := HS.out (m - 1) (by omega)
          have hsub : ((m : Int) - 1).toNat = m - 1 := by omega
          obtain ⟨l, hl⟩ : ∃ l, m = l + 1 := ⟨m - 1, by omega⟩
          subst hl
          by_cases hE : kd l = 21
          · have e1 : (kd l == 21) = true := by rw [hE]; rfl
            have HY := hid (HK.out.2 ⟨h1, h9, fun i hi => HIN.out i (by omega), by simpa using hE⟩)
            clear hE
            simp only [Nat.add_sub_cancel] at c0
            go_wp2
            go_ret
            exact ⟨says_t HY.out, HB0.out⟩
          · have e1 : (kd l == 21) = false := by rw [beq_eq_false_iff_ne]; exact hE
            have HN := hid (fun h => hE (by have := (HK.out.1 h).2.2.2; simpa using this))
            clear hE
            simp only [Nat.add_sub_cancel] at c0
            go_wp2
            go_ret
            exact ⟨says_f HN.out, HB0.out⟩
        · have h9' : ¬ (m : Int) - 1 ≤ 8 := by omega
          have HN := hid (fun h => h9 (HK.out.1 h).2.1)
          go_wp2
          go_ret
          exact ⟨says_f HN.out, HB0.out⟩
      · have h1' : ¬ (1 : Int) ≤ m := by omega
        have HN := hid (fun h => h1 (HK.out.1 h).1)
        go_wp2
        go_ret
        exact ⟨says_f HN.out, HB0.out⟩
set_option maxHeartbeats 4000000 in
theorem fit_24 : FI 24 := by
  intro op ty n kids t g m c kd w hm h8 hg hs
  have HB0 := hid ((Below.refl w.heap.size w).alloc (Nat.le_refl _) (.cells #[.int .i64 24, .int .i64 op, .int .i64 ty, .int .i64 n, .string t, .int .i64 kids] 63))
  have HS := hid (hs.below HB0.out hg)
  have HK := hid (ko_24 op ty n kids t m kd)
  unfold ndV
  clear hs h8
  go_enter Tryz.func22, Tryz.ntmps22
  go_wp2
  go_loop [10] (fun i => ∃ j : Nat, j ≤ m ∧ i = .int .i64 j ∧ ∀ i, i < j → kd i = 23) (fun i => m - (intOf i).toNat)
  case atStart => exact ⟨0, Nat.zero_le _, rfl, fun i h => absurd h (Nat.not_lt_zero _)⟩
  case round =>
    obtain ⟨j, hj, rfl, hin⟩ := hrel
    have HIN := hid hin
    clear hin
    by_cases hlt : j < m
    · have c0 := HS.out j (by omega)
      by_cases hE : kd j = 23
      · have e0 : (kd j != 23) = false := by rw [hE]; rfl
        have HX := hid (all_step (P := fun i => kd i = 23) HIN.out hE)
        clear hE
        go_wp2
        go_round
        case rel => exact ⟨j + 1, by omega, by go_num, HX.out⟩
        case measure => simp [intOf]; omega
      · have e0 : (kd j != 23) = true := by rw [bne_iff_ne]; exact hE
        have HF := hid (fun h => hE ((HK.out.1 h).2.2 j hlt))
        clear hE
        go_wp2
        go_ret
        exact ⟨says_f HF.out, HB0.out⟩
    · obtain rfl : j = m := by omega
      by_cases h1 : 1 ≤ j
      · have h1' : (1 : Int) ≤ j := by omega
        by_cases h9 : j ≤ 60
        · have h9' : (j : Int) ≤ 60 := by omega
          have HY := hid (HK.out.2 ⟨h1, h9, HIN.out⟩)
          go_wp2
          go_ret
          exact ⟨says_t HY.out, HB0.out⟩
        · have h9' : ¬ (j : Int) ≤ 60 := by omega
          have HN := hid (fun h => h9 (HK.out.1 h).2.1)
          go_wp2
          go_ret
          exact ⟨says_f HN.out, HB0.out⟩
      · have h1' : ¬ (1 : Int) ≤ j := by omega
        have HN := hid (fun h => h1 (HK.out.1 h).1)
        go_wp2
        go_ret
        exact ⟨says_f HN.out, HB0.out⟩
set_option maxHeartbeats 4000000 in
theorem fit_E (k : Int) (hk : k < 1 ∨ 24 < k) : FI k := by
  intro op ty n kids t g m c kd w hm h8 hg hs
  have HB0 := hid ((Below.refl w.heap.size w).alloc (Nat.le_refl _) (.cells #[.int .i64 k, .int .i64 op, .int .i64 ty, .int .i64 n, .string t, .int .i64 kids] 63))
  have HN := hid (ko_E k op ty n kids t m kd hk)
  have hn : ∀ x : Int, 1 ≤ x → x ≤ 24 → (k == x) = false := fun x h1 h2 => by rw [beq_eq_false_iff_ne]; omega
  have n1 := hn 1 (by decide) (by decide)
  have n2 := hn 2 (by decide) (by decide)
  have n3 := hn 3 (by decide) (by decide)
  have n4 := hn 4 (by decide) (by decide)
  have n5 := hn 5 (by decide) (by decide)
  have n6 := hn 6 (by decide) (by decide)
  have n7 := hn 7 (by decide) (by decide)
  have n8 := hn 8 (by decide) (by decide)
  have n9 := hn 9 (by decide) (by decide)
  have n10 := hn 10 (by decide) (by decide)
  have n11 := hn 11 (by decide) (by decide)
  have n12 := hn 12 (by decide) (by decide)
  have n13 := hn 13 (by decide) (by decide)
  have n14 := hn 14 (by decide) (by decide)
  have n15 := hn 15 (by decide) (by decide)
  have n16 := hn 16 (by decide) (by decide)
  have n17 := hn 17 (by decide) (by decide)
  have n18 := hn 18 (by decide) (by decide)
  have n19 := hn 19 (by decide) (by decide)
  have n20 := hn 20 (by decide) (by decide)
  have n21 := hn 21 (by decide) (by decide)
  have n22 := hn 22 (by decide) (by decide)
  have n23 := hn 23 (by decide) (by decide)
  have n24 := hn 24 (by decide) (by decide)
  clear hn
  unfold ndV
  clear hs h8 hk
  go_enter Tryz.func22, Tryz.ntmps22
  go_wp2
  go_ret
  exact ⟨says_f HN.out, HB0.out⟩
end Go.Proofs.YtkngjbpbjjoneaaGreatDoor.Q
