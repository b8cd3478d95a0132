import Derived.Test.YtjbhadpdbcelcaaDoorQFitU
/-! Printed by gen_fit.py. -/
namespace Go.Proofs.YtjbhadpdbcelcaaDoor.Q
open Go.RowKit Go.Shelf
set_option maxRecDepth 20000
set_option maxHeartbeats 4000000 in
theorem fit_12 : FI 12 := by
  intro op ty n kids t g m c kd w hm h8 hg hs
  have HB0 := hid ((Below.refl w.heap.size w).alloc (Nat.le_refl _) (.cells #[.int .i64 12, .int .i64 op, .int .i64 ty, .int .i64 n, .string t, .int .i64 kids] 39))
  have HS := hid (hs.below HB0.out hg)
  have HK := hid (ko_12 op ty n kids t m kd)
  unfold ndV
  clear hs h8
  by_cases h2 : m = 2
  · subst h2
    have c0 := HS.out 0 (by omega)
    have c1 := HS.out 1 (by omega)
    cases hE : (decide (1 ≤ kd 0) && decide (kd 0 ≤ 9))
    · have HN : Hid (¬ KidsOk ⟨12, op, ty, n, t, kids⟩ 2 kd) := fun h => by have := (eBool _).2 (HK.out.1 h).2.1; rw [hE] at this; cases this
      go_enter Tryd.func12, Tryd.ntmps12
      go_wp2_with (go_at_call 25; refine (l11E_any _ _).mono ?_; rintro e w' ⟨rfl, hw⟩; have hw2 := hw.symm; clear hw; subst hw2; rw [hE])
      go_ret
      exact ⟨says_f HN.out, HB0.out⟩
    · have HE := hid ((eBool _).1 hE)
      by_cases h1 : kd 1 = 21
      · have e1 : (kd 1 == 21) = true := by rw [h1]; rfl
        have HY := hid (HK.out.2 ⟨by simp, HE.out, h1, fun h => by omega⟩)
        clear h1
        go_enter Tryd.func12, Tryd.ntmps12
        go_wp2_with (go_at_call 25; refine (l11E_any _ _).mono ?_; rintro e w' ⟨rfl, hw⟩; have hw2 := hw.symm; clear hw; subst hw2; rw [hE])
        go_ret
        exact ⟨says_t HY.out, HB0.out⟩
      · have e1 : (kd 1 == 21) = false := by rw [beq_eq_false_iff_ne]; exact h1
        have HN := hid (fun h => h1 (HK.out.1 h).2.2.1)
        clear h1
        go_enter Tryd.func12, Tryd.ntmps12
        go_wp2_with (go_at_call 25; refine (l11E_any _ _).mono ?_; rintro e w' ⟨rfl, hw⟩; have hw2 := hw.symm; clear hw; subst hw2; rw [hE])
        go_ret
        exact ⟨says_f HN.out, HB0.out⟩
  · by_cases h3 : m = 3
    · subst h3
      have c0 := HS.out 0 (by omega)
      have c1 := HS.out 1 (by omega)
      have c2 := HS.out 2 (by omega)
      cases hE : (decide (1 ≤ kd 0) && decide (kd 0 ≤ 9))
      · have HN : Hid (¬ KidsOk ⟨12, op, ty, n, t, kids⟩ 3 kd) := fun h => by have := (eBool _).2 (HK.out.1 h).2.1; rw [hE] at this; cases this
        go_enter Tryd.func12, Tryd.ntmps12
        go_wp2_with (go_at_call 25; refine (l11E_any _ _).mono ?_; rintro e w' ⟨rfl, hw⟩; have hw2 := hw.symm; clear hw; subst hw2; rw [hE])
        go_ret
        exact ⟨says_f HN.out, HB0.out⟩
      · have HE := hid ((eBool _).1 hE)
        by_cases h1 : kd 1 = 21
        · have e1 : (kd 1 == 21) = true := by rw [h1]; rfl
          have H1 := hid h1
          clear h1
          by_cases h4 : kd 2 = 21
          · have e2 : (kd 2 == 21) = true := by rw [h4]; rfl
            have HY := hid (HK.out.2 ⟨by simp, HE.out, H1.out, fun _ => .inl h4⟩)
            clear h4
            go_enter Tryd.func12, Tryd.ntmps12
            go_wp2_with (go_at_call 25; refine (l11E_any _ _).mono ?_; rintro e w' ⟨rfl, hw⟩; have hw2 := hw.symm; clear hw; subst hw2; rw [hE])
            go_ret
            exact ⟨says_t HY.out, HB0.out⟩
          · have e2 : (kd 2 == 21) = false := by rw [beq_eq_false_iff_ne]; exact h4
            by_cases h5 : kd 2 = 12
            · have e3 : (kd 2 == 12) = true := by rw [h5]; rfl
              have HY := hid (HK.out.2 ⟨by simp, HE.out, H1.out, fun _ => .inr h5⟩)
              clear h4 h5
              go_enter Tryd.func12, Tryd.ntmps12
              go_wp2_with (go_at_call 25; refine (l11E_any _ _).mono ?_; rintro e w' ⟨rfl, hw⟩; have hw2 := hw.symm; clear hw; subst hw2; rw [hE])
              go_ret
              exact ⟨says_t HY.out, HB0.out⟩
            · have e3 : (kd 2 == 12) = false := by rw [beq_eq_false_iff_ne]; exact h5
              have HN : Hid (¬ KidsOk ⟨12, op, ty, n, t, kids⟩ 3 kd) := fun h => by
                rcases (HK.out.1 h).2.2.2 rfl with h' | h'
                · exact h4 h'
                · exact h5 h'
              clear h4 h5
              go_enter Tryd.func12, Tryd.ntmps12
              go_wp2_with (go_at_call 25; refine (l11E_any _ _).mono ?_; rintro e w' ⟨rfl, hw⟩; have hw2 := hw.symm; clear hw; subst hw2; rw [hE])
              go_ret
              exact ⟨says_f HN.out, HB0.out⟩
        · have e1 : (kd 1 == 21) = false := by rw [beq_eq_false_iff_ne]; exact h1
          have HN := hid (fun h => h1 (HK.out.1 h).2.2.1)
          clear h1
          go_enter Tryd.func12, Tryd.ntmps12
          go_wp2_with (go_at_call 25; refine (l11E_any _ _).mono ?_; rintro e w' ⟨rfl, hw⟩; have hw2 := hw.symm; clear hw; subst hw2; rw [hE])
          go_ret
          exact ⟨says_f HN.out, HB0.out⟩
    · have HN : Hid (¬ KidsOk ⟨12, op, ty, n, t, kids⟩ m kd) := fun h => by
        rcases (HK.out.1 h).1 with h' | h'
        · exact h2 h'
        · exact h3 h'
      by_cases h4 : m < 2
      · have h5 : ¬ (2 : Int) ≤ m := by omega
        go_enter Tryd.func12, Tryd.ntmps12
        go_wp2
        go_ret
        exact ⟨says_f HN.out, HB0.out⟩
      · have h5 : (2 : Int) ≤ m := by omega
        have h6 : ¬ (m : Int) ≤ 3 := by omega
        go_enter Tryd.func12, Tryd.ntmps12
        go_wp2
        go_ret
        exact ⟨says_f HN.out, HB0.out⟩
set_option maxHeartbeats 4000000 in
theorem fit_13 : FI 13 := by
  intro op ty n kids t g m c kd w hm h8 hg hs
  have HB0 := hid ((Below.refl w.heap.size w).alloc (Nat.le_refl _) (.cells #[.int .i64 13, .int .i64 op, .int .i64 ty, .int .i64 n, .string t, .int .i64 kids] 39))
  have HS := hid (hs.below HB0.out hg)
  have HK := hid (ko_13 op ty n kids t m kd)
  unfold ndV
  clear hs h8
  by_cases h2 : m = 2
  · subst h2
    have c0 := HS.out 0 (by omega)
    have c1 := HS.out 1 (by omega)
    cases hE : (decide (1 ≤ kd 0) && decide (kd 0 ≤ 9))
    · have HN : Hid (¬ KidsOk ⟨13, op, ty, n, t, kids⟩ 2 kd) := fun h => by have := (eBool _).2 (HK.out.1 h).2.1; rw [hE] at this; cases this
      go_enter Tryd.func12, Tryd.ntmps12
      go_wp2_with (go_at_call 25; refine (l11E_any _ _).mono ?_; rintro e w' ⟨rfl, hw⟩; have hw2 := hw.symm; clear hw; subst hw2; rw [hE])
      go_ret
      exact ⟨says_f HN.out, HB0.out⟩
    · have HE := hid ((eBool _).1 hE)
      by_cases h1 : kd 1 = 21
      · have e1 : (kd 1 == 21) = true := by rw [h1]; rfl
        have HY := hid (HK.out.2 ⟨by simp, HE.out, h1⟩)
        clear h1
        go_enter Tryd.func12, Tryd.ntmps12
        go_wp2_with (go_at_call 25; refine (l11E_any _ _).mono ?_; rintro e w' ⟨rfl, hw⟩; have hw2 := hw.symm; clear hw; subst hw2; rw [hE])
        go_ret
        exact ⟨says_t HY.out, HB0.out⟩
      · have e1 : (kd 1 == 21) = false := by rw [beq_eq_false_iff_ne]; exact h1
        have HN := hid (fun h => h1 (HK.out.1 h).2.2)
        clear h1
        go_enter Tryd.func12, Tryd.ntmps12
        go_wp2_with (go_at_call 25; refine (l11E_any _ _).mono ?_; rintro e w' ⟨rfl, hw⟩; have hw2 := hw.symm; clear hw; subst hw2; rw [hE])
        go_ret
        exact ⟨says_f HN.out, HB0.out⟩
  · have hq : ((m : Int) == 2) = false := by rw [beq_eq_false_iff_ne]; omega
    have HN := hid (fun h => h2 (HK.out.1 h).1)
    clear h2
    go_enter Tryd.func12, Tryd.ntmps12
    go_wp2
    go_ret
    exact ⟨says_f HN.out, HB0.out⟩
set_option maxHeartbeats 4000000 in
theorem fit_20 : FI 20 := by
  intro op ty n kids t g m c kd w hm h8 hg hs
  have HB0 := hid ((Below.refl w.heap.size w).alloc (Nat.le_refl _) (.cells #[.int .i64 20, .int .i64 op, .int .i64 ty, .int .i64 n, .string t, .int .i64 kids] 39))
  have HS := hid (hs.below HB0.out hg)
  have HK := hid (ko_20 op ty n kids t m kd)
  unfold ndV
  clear hs h8
  by_cases h0 : m = 1
  · subst h0
    have c0 := HS.out 0 (by omega)
    by_cases h1 : kd 0 = 7
    · have e1 : (kd 0 == 7) = true := by rw [h1]; rfl
      have HY := hid (HK.out.2 ⟨by simp, h1⟩)
      clear h1
      go_enter Tryd.func12, Tryd.ntmps12
      go_wp2
      go_ret
      exact ⟨says_t HY.out, HB0.out⟩
    · have e1 : (kd 0 == 7) = false := by rw [beq_eq_false_iff_ne]; exact h1
      have HN := hid (fun h => h1 (HK.out.1 h).2)
      clear h1
      go_enter Tryd.func12, Tryd.ntmps12
      go_wp2
      go_ret
      exact ⟨says_f HN.out, HB0.out⟩
  · have hq : ((m : Int) == 1) = false := by rw [beq_eq_false_iff_ne]; omega
    have HN := hid (fun h => h0 (HK.out.1 h).1)
    clear h0
    go_enter Tryd.func12, Tryd.ntmps12
    go_wp2
    go_ret
    exact ⟨says_f HN.out, HB0.out⟩
end Go.Proofs.YtjbhadpdbcelcaaDoor.Q
