import Derived.Test.YtjbhadpdbcelcaaDoorQFitU
/-! Printed by gen_fit.py. -/
namespace Go.Proofs.YtjbhadpdbcelcaaDoor.Q
open Go.RowKit Go.Shelf
set_option maxRecDepth 20000
set_option maxHeartbeats 4000000 in
theorem fit_6 : FI 6 := by
  intro op ty n kids t g m c kd w hm h8 hg hs
  have HB0 := hid ((Below.refl w.heap.size w).alloc (Nat.le_refl _) (.cells #[.int .i64 6, .int .i64 op, .int .i64 ty, .int .i64 n, .string t, .int .i64 kids] 39))
  have HS := hid (hs.below HB0.out hg)
  have HK := hid (ko_6 op ty n kids t m kd)
  unfold ndV
  clear hs h8
  by_cases h0 : m = 2
  · subst h0
    go_enter Tryd.func12, Tryd.ntmps12
    go_wp2_with (go_at_call 26; refine (l11AllE_any g _ c kd _ (by omega) HS.out).mono ?_; rintro e w' ⟨hs, hw⟩; have hw2 := hw.symm; clear hw; subst hw2; obtain ⟨b, rfl, hP⟩ := hs; have HP := hid hP; clear hP)
    go_ret
    exact ⟨⟨_, rfl, HP.out.trans ⟨fun h => HK.out.2 ⟨by simp, h⟩, fun h => (HK.out.1 h).2⟩⟩, HB0.out⟩
  · have hq : ((m : Int) == 2) = false := by rw [beq_eq_false_iff_ne]; omega
    have HN := hid (fun h => h0 (HK.out.1 h).1)
    clear h0
    go_enter Tryd.func12, Tryd.ntmps12
    go_wp2
    go_ret
    exact ⟨says_f HN.out, HB0.out⟩
set_option maxHeartbeats 4000000 in
theorem fit_18 : FI 18 := by
  intro op ty n kids t g m c kd w hm h8 hg hs
  have HB0 := hid ((Below.refl w.heap.size w).alloc (Nat.le_refl _) (.cells #[.int .i64 18, .int .i64 op, .int .i64 ty, .int .i64 n, .string t, .int .i64 kids] 39))
  have HS := hid (hs.below HB0.out hg)
  have HK := hid (ko_18 op ty n kids t m kd)
  unfold ndV
  clear hs h8
  by_cases h0 : m = 2
  · subst h0
    go_enter Tryd.func12, Tryd.ntmps12
    go_wp2_with (go_at_call 26; refine (l11AllE_any g _ c kd _ (by omega) HS.out).mono ?_; rintro e w' ⟨hs, hw⟩; have hw2 := hw.symm; clear hw; subst hw2; obtain ⟨b, rfl, hP⟩ := hs; have HP := hid hP; clear hP)
    go_ret
    exact ⟨⟨_, rfl, HP.out.trans ⟨fun h => HK.out.2 ⟨by simp, h⟩, fun h => (HK.out.1 h).2⟩⟩, HB0.out⟩
  · have hq : ((m : Int) == 2) = false := by rw [beq_eq_false_iff_ne]; omega
    have HN := hid (fun h => h0 (HK.out.1 h).1)
    clear h0
    go_enter Tryd.func12, Tryd.ntmps12
    go_wp2
    go_ret
    exact ⟨says_f HN.out, HB0.out⟩
set_option maxHeartbeats 4000000 in
theorem fit_7 : FI 7 := by
  intro op ty n kids t g m c kd w hm h8 hg hs
  have HB0 := hid ((Below.refl w.heap.size w).alloc (Nat.le_refl _) (.cells #[.int .i64 7, .int .i64 op, .int .i64 ty, .int .i64 n, .string t, .int .i64 kids] 39))
  have HS := hid (hs.below HB0.out hg)
  have HK := hid (ko_7 op ty n kids t m kd)
  unfold ndV
  clear hs h8
  by_cases h0 : m ≤ 8
  · have hq : (m : Int) ≤ 8 := by omega
    go_enter Tryd.func12, Tryd.ntmps12
    go_wp2_with (go_at_call 26; refine (l11AllE_any g _ c kd _ (by omega) HS.out).mono ?_; rintro e w' ⟨hs, hw⟩; have hw2 := hw.symm; clear hw; subst hw2; obtain ⟨b, rfl, hP⟩ := hs; have HP := hid hP; clear hP)
    go_ret
    exact ⟨⟨_, rfl, HP.out.trans ⟨fun h => HK.out.2 ⟨h0, h⟩, fun h => (HK.out.1 h).2⟩⟩, HB0.out⟩
  · have hq : ¬ (m : Int) ≤ 8 := by omega
    have HN := hid (fun h => h0 (HK.out.1 h).1)
    clear h0
    go_enter Tryd.func12, Tryd.ntmps12
    go_wp2
    go_ret
    exact ⟨says_f HN.out, HB0.out⟩
set_option maxHeartbeats 4000000 in
theorem fit_16 : FI 16 := by
  intro op ty n kids t g m c kd w hm h8 hg hs
  have HB0 := hid ((Below.refl w.heap.size w).alloc (Nat.le_refl _) (.cells #[.int .i64 16, .int .i64 op, .int .i64 ty, .int .i64 n, .string t, .int .i64 kids] 39))
  have HS := hid (hs.below HB0.out hg)
  have HK := hid (ko_16 op ty n kids t m kd)
  unfold ndV
  clear hs h8
  by_cases h0 : m ≤ 1
  · have hq : (m : Int) ≤ 1 := by omega
    go_enter Tryd.func12, Tryd.ntmps12
    go_wp2_with (go_at_call 26; refine (l11AllE_any g _ c kd _ (by omega) HS.out).mono ?_; rintro e w' ⟨hs, hw⟩; have hw2 := hw.symm; clear hw; subst hw2; obtain ⟨b, rfl, hP⟩ := hs; have HP := hid hP; clear hP)
    go_ret
    exact ⟨⟨_, rfl, HP.out.trans ⟨fun h => HK.out.2 ⟨h0, h⟩, fun h => (HK.out.1 h).2⟩⟩, HB0.out⟩
  · have hq : ¬ (m : Int) ≤ 1 := by omega
    have HN := hid (fun h => h0 (HK.out.1 h).1)
    clear h0
    go_enter Tryd.func12, Tryd.ntmps12
    go_wp2
    go_ret
    exact ⟨says_f HN.out, HB0.out⟩
set_option maxHeartbeats 4000000 in
theorem fit_8 : FI 8 := by
  intro op ty n kids t g m c kd w hm h8 hg hs
  have HB0 := hid ((Below.refl w.heap.size w).alloc (Nat.le_refl _) (.cells #[.int .i64 8, .int .i64 op, .int .i64 ty, .int .i64 n, .string t, .int .i64 kids] 39))
  have HS := hid (hs.below HB0.out hg)
  have HK := hid (ko_8 op ty n kids t m kd)
  unfold ndV
  clear hs
  obtain ⟨h1, h2⟩ := h8 rfl
  have HBW : Hid (∀ W, Calls Tryd.prog 27 #[.int .i64 op] W fun e w' => (∃ s, e = .returned (.tuple #[.string s, .int .i64 (builtKids op)])) ∧ w' = W) := fun W => l10BuiltWord_kids op h1 h2 W
  generalize builtKids op = bk at *
  clear h8 h1 h2
  by_cases h0 : m = bk
  · subst h0
    have hq : ((m : Int) == (m : Int)) = true := by simp
    go_enter Tryd.func12, Tryd.ntmps12
    go_wp2_with (first
      | (go_at_call 27; refine (HBW.out _).mono ?_; rintro e w' ⟨⟨s0, rfl⟩, hw⟩; have hw2 := hw.symm; clear hw; subst hw2)
      | (go_at_call 26; refine (l11AllE_any g _ c kd _ (by omega) HS.out).mono ?_; rintro e w' ⟨hs, hw⟩; have hw2 := hw.symm; clear hw; subst hw2; obtain ⟨b, rfl, hP⟩ := hs; have HP := hid hP; clear hP))
    go_ret
    exact ⟨⟨_, rfl, HP.out.trans ⟨fun h => HK.out.2 ⟨by simp, h⟩, fun h => (HK.out.1 h).2⟩⟩, HB0.out⟩
  · have hq : ((m : Int) == (bk : Int)) = false := by rw [beq_eq_false_iff_ne]; omega
    have HN := hid (fun h => h0 (HK.out.1 h).1)
    clear h0
    go_enter Tryd.func12, Tryd.ntmps12
    go_wp2_with (go_at_call 27; refine (HBW.out _).mono ?_; rintro e w' ⟨⟨s0, rfl⟩, hw⟩; have hw2 := hw.symm; clear hw; subst hw2)
    go_ret
    exact ⟨says_f HN.out, HB0.out⟩
end Go.Proofs.YtjbhadpdbcelcaaDoor.Q
