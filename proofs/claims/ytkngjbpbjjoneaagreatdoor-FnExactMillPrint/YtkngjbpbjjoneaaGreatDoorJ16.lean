import Derived.Test.YtkngjbpbjjoneaaGreatDoorJ10
/-! Printed by gen_fit.py. -/
namespace Go.Proofs.YtkngjbpbjjoneaaGreatDoor.Q
open Go.RowKit Go.Shelf
set_option maxRecDepth 20000
set_option maxHeartbeats 4000000 in
theorem fit_1 : FI 1 := by
  intro op ty n kids t g m c kd w hm h8 hg hs
  have HB0 := hid ((Below.refl w.heap.size w).alloc (Nat.le_refl _) (.cells #[.int .i64 1, .int .i64 op, .int .i64 ty, .int .i64 n, .string t, .int .i64 kids] 63))
  have HS := hid (hs.below HB0.out hg)
  have HK := hid (ko_1 op ty n kids t m kd)
  unfold ndV
  clear hs h8
  by_cases h0 : m = 0
  · subst h0
    go_enter Tryz.func22, Tryz.ntmps22
    go_wp2
    go_ret
    exact ⟨says_t (HK.out.2 (by simp)), HB0.out⟩
  · have hq : ((m : Int) == 0) = false := by rw [beq_eq_false_iff_ne]; omega
    have HN := hid (fun h => h0 (HK.out.1 h))
    clear h0
    go_enter Tryz.func22, Tryz.ntmps22
    go_wp2
    go_ret
    exact ⟨says_f HN.out, HB0.out⟩
set_option maxHeartbeats 4000000 in
theorem fit_2 : FI 2 := by
  intro op ty n kids t g m c kd w hm h8 hg hs
  have HB0 := hid ((Below.refl w.heap.size w).alloc (Nat.le_refl _) (.cells #[.int .i64 2, .int .i64 op, .int .i64 ty, .int .i64 n, .string t, .int .i64 kids] 63))
  have HS := hid (hs.below HB0.out hg)
  have HK := hid (ko_2 op ty n kids t m kd)
  unfold ndV
  clear hs h8
  by_cases h0 : m = 0
  · subst h0
    go_enter Tryz.func22, Tryz.ntmps22
    go_wp2
    go_ret
    exact ⟨says_t (HK.out.2 (by simp)), HB0.out⟩
  · have hq : ((m : Int) == 0) = false := by rw [beq_eq_false_iff_ne]; omega
    have HN := hid (fun h => h0 (HK.out.1 h))
    clear h0
    go_enter Tryz.func22, Tryz.ntmps22
    go_wp2
    go_ret
    exact ⟨says_f HN.out, HB0.out⟩
set_option maxHeartbeats 4000000 in
theorem fit_3 : FI 3 := by
  intro op ty n kids t g m c kd w hm h8 hg hs
  have HB0 := hid ((Below.refl w.heap.size w).alloc (Nat.le_refl _) (.cells #[.int .i64 3, .int .i64 op, .int .i64 ty, .int .i64 n, .string t, .int .i64 kids] 63))
  have HS := hid (hs.below HB0.out hg)
  have HK := hid (ko_3 op ty n kids t m kd)
  unfold ndV
  clear hs h8
  by_cases h0 : m = 0
  · subst h0
    go_enter Tryz.func22, Tryz.ntmps22
    go_wp2
    go_ret
    exact ⟨says_t (HK.out.2 (by simp)), HB0.out⟩
  · have hq : ((m : Int) == 0) = false := by rw [beq_eq_false_iff_ne]; omega
    have HN := hid (fun h => h0 (HK.out.1 h))
    clear h0
    go_enter Tryz.func22, Tryz.ntmps22
    go_wp2
    go_ret
    exact ⟨says_f HN.out, HB0.out⟩
set_option maxHeartbeats 4000000 in
theorem fit_4 : FI 4 := by
  intro op ty n kids t g m c kd w hm h8 hg hs
  have HB0 := hid ((Below.refl w.heap.size w).alloc (Nat.le_refl _) (.cells #[.int .i64 4, .int .i64 op, .int .i64 ty, .int .i64 n, .string t, .int .i64 kids] 63))
  have HS := hid (hs.below HB0.out hg)
  have HK := hid (ko_4 op ty n kids t m kd)
  unfold ndV
  clear hs h8
  by_cases h0 : m = 0
  · subst h0
    go_enter Tryz.func22, Tryz.ntmps22
    go_wp2
    go_ret
    exact ⟨says_t (HK.out.2 (by simp)), HB0.out⟩
  · have hq : ((m : Int) == 0) = false := by rw [beq_eq_false_iff_ne]; omega
    have HN := hid (fun h => h0 (HK.out.1 h))
    clear h0
    go_enter Tryz.func22, Tryz.ntmps22
    go_wp2
    go_ret
    exact ⟨says_f HN.out, HB0.out⟩
set_option maxHeartbeats 4000000 in
theorem fit_14 : FI 14 := by
  intro op ty n kids t g m c kd w hm h8 hg hs
  have HB0 := hid ((Below.refl w.heap.size w).alloc (Nat.le_refl _) (.cells #[.int .i64 14, .int .i64 op, .int .i64 ty, .int .i64 n, .string t, .int .i64 kids] 63))
  have HS := hid (hs.below HB0.out hg)
  have HK := hid (ko_14 op ty n kids t m kd)
  unfold ndV
  clear hs h8
  by_cases h0 : m = 0
  · subst h0
    go_enter Tryz.func22, Tryz.ntmps22
    go_wp2
    go_ret
    exact ⟨says_t (HK.out.2 (by simp)), HB0.out⟩
  · have hq : ((m : Int) == 0) = false := by rw [beq_eq_false_iff_ne]; omega
    have HN := hid (fun h => h0 (HK.out.1 h))
    clear h0
    go_enter Tryz.func22, Tryz.ntmps22
    go_wp2
    go_ret
    exact ⟨says_f HN.out, HB0.out⟩
set_option maxHeartbeats 4000000 in
theorem fit_15 : FI 15 := by
  intro op ty n kids t g m c kd w hm h8 hg hs
  have HB0 := hid ((Below.refl w.heap.size w).alloc (Nat.le_refl _) (.cells #[.int .i64 15, .int .i64 op, .int .i64 ty, .int .i64 n, .string t, .int .i64 kids] 63))
  have HS := hid (hs.below HB0.out hg)
  have HK := hid (ko_15 op ty n kids t m kd)
  unfold ndV
  clear hs h8
  by_cases h0 : m = 0
  · subst h0
    go_enter Tryz.func22, Tryz.ntmps22
    go_wp2
    go_ret
    exact ⟨says_t (HK.out.2 (by simp)), HB0.out⟩
  · have hq : ((m : Int) == 0) = false := by rw [beq_eq_false_iff_ne]; omega
    have HN := hid (fun h => h0 (HK.out.1 h))
    clear h0
    go_enter Tryz.func22, Tryz.ntmps22
    go_wp2
    go_ret
    exact ⟨says_f HN.out, HB0.out⟩
set_option maxHeartbeats 4000000 in
theorem fit_22 : FI 22 := by
  intro op ty n kids t g m c kd w hm h8 hg hs
  have HB0 := hid ((Below.refl w.heap.size w).alloc (Nat.le_refl _) (.cells #[.int .i64 22, .int .i64 op, .int .i64 ty, .int .i64 n, .string t, .int .i64 kids] 63))
  have HS := hid (hs.below HB0.out hg)
  have HK := hid (ko_22 op ty n kids t m kd)
  unfold ndV
  clear hs h8
  by_cases h0 : m = 0
  · subst h0
    go_enter Tryz.func22, Tryz.ntmps22
    go_wp2
    go_ret
    exact ⟨says_t (HK.out.2 (by simp)), HB0.out⟩
  · have hq : ((m : Int) == 0) = false := by rw [beq_eq_false_iff_ne]; omega
    have HN := hid (fun h => h0 (HK.out.1 h))
    clear h0
    go_enter Tryz.func22, Tryz.ntmps22
    go_wp2
    go_ret
    exact ⟨says_f HN.out, HB0.out⟩
end Go.Proofs.YtkngjbpbjjoneaaGreatDoor.Q
/-! Printed by gen_fit.py. -/
namespace Go.Proofs.YtkngjbpbjjoneaaGreatDoor.Q
open Go.RowKit Go.Shelf
set_option maxRecDepth 20000
set_option maxHeartbeats 4000000 in
theorem fit_5 : FI 5 := by
  intro op ty n kids t g m c kd w hm h8 hg hs
  have HB0 := hid ((Below.refl w.heap.size w).alloc (Nat.le_refl _) (.cells #[.int .i64 5, .int .i64 op, .int .i64 ty, .int .i64 n, .string t, .int .i64 kids] 63))
  have HS := hid (hs.below HB0.out hg)
  have HK := hid (ko_5 op ty n kids t m kd)
  unfold ndV
  clear hs h8
  by_cases h0 : m = 1
  · subst h0
    have c0 := HS.out 0 (by omega)
    go_enter Tryz.func22, Tryz.ntmps22
    go_wp2_with (go_at_call 42; refine (l11E_any _ _).mono ?_; rintro e w' ⟨rfl, hw⟩; have hw2 := hw.symm; clear hw; subst hw2)
    go_ret
    exact ⟨⟨_, rfl, (eBool _).trans ((allE_1 kd).symm.trans ⟨fun h => HK.out.2 ⟨by simp, h⟩, fun h => (HK.out.1 h).2⟩)⟩, HB0.out⟩
  · have hq : ((m : Int) == 1) = false := by rw [beq_eq_false_iff_ne]; omega
    have HN := hid (fun h => h0 (HK.out.1 h).1)
    clear h0
    go_enter Tryz.func22, Tryz.ntmps22
    go_wp2
    go_ret
    exact ⟨says_f HN.out, HB0.out⟩
set_option maxHeartbeats 4000000 in
theorem fit_9 : FI 9 := by
  intro op ty n kids t g m c kd w hm h8 hg hs
  have HB0 := hid ((Below.refl w.heap.size w).alloc (Nat.le_refl _) (.cells #[.int .i64 9, .int .i64 op, .int .i64 ty, .int .i64 n, .string t, .int .i64 kids] 63))
  have HS := hid (hs.below HB0.out hg)
  have HK := hid (ko_9 op ty n kids t m kd)
  unfold ndV
  clear hs h8
  by_cases h0 : m = 1
  · subst h0
    have c0 := HS.out 0 (by omega)
    go_enter Tryz.func22, Tryz.ntmps22
    go_wp2_with (go_at_call 42; refine (l11E_any _ _).mono ?_; rintro e w' ⟨rfl, hw⟩; have hw2 := hw.symm; clear hw; subst hw2)
    go_ret
    exact ⟨⟨_, rfl, (eBool _).trans ((allE_1 kd).symm.trans ⟨fun h => HK.out.2 ⟨by simp, h⟩, fun h => (HK.out.1 h).2⟩)⟩, HB0.out⟩
  · have hq : ((m : Int) == 1) = false := by rw [beq_eq_false_iff_ne]; omega
    have HN := hid (fun h => h0 (HK.out.1 h).1)
    clear h0
    go_enter Tryz.func22, Tryz.ntmps22
    go_wp2
    go_ret
    exact ⟨says_f HN.out, HB0.out⟩
set_option maxHeartbeats 4000000 in
theorem fit_10 : FI 10 := by
  intro op ty n kids t g m c kd w hm h8 hg hs
  have HB0 := hid ((Below.refl w.heap.size w).alloc (Nat.le_refl _) (.cells #[.int .i64 10, .int .i64 op, .int .i64 ty, .int .i64 n, .string t, .int .i64 kids] 63))
  have HS := hid (hs.below HB0.out hg)
  have HK := hid (ko_10 op ty n kids t m kd)
  unfold ndV
  clear hs h8
  by_cases h0 : m = 1
  · subst h0
    have c0 := HS.out 0 (by omega)
    go_enter Tryz.func22, Tryz.ntmps22
    go_wp2_with (go_at_call 42; refine (l11E_any _ _).mono ?_; rintro e w' ⟨rfl, hw⟩; have hw2 := hw.symm; clear hw; subst hw2)
    go_ret
    exact ⟨⟨_, rfl, (eBool _).trans ((allE_1 kd).symm.trans ⟨fun h => HK.out.2 ⟨by simp, h⟩, fun h => (HK.out.1 h).2⟩)⟩, HB0.out⟩
  · have hq : ((m : Int) == 1) = false := by rw [beq_eq_false_iff_ne]; omega
    have HN := hid (fun h => h0 (HK.out.1 h).1)
    clear h0
    go_enter Tryz.func22, Tryz.ntmps22
    go_wp2
    go_ret
    exact ⟨says_f HN.out, HB0.out⟩
set_option maxHeartbeats 4000000 in
theorem fit_11 : FI 11 := by
  intro op ty n kids t g m c kd w hm h8 hg hs
  have HB0 := hid ((Below.refl w.heap.size w).alloc (Nat.le_refl _) (.cells #[.int .i64 11, .int .i64 op, .int .i64 ty, .int .i64 n, .string t, .int .i64 kids] 63))
  have HS := hid (hs.below HB0.out hg)
  have HK := hid (ko_11 op ty n kids t m kd)
  unfold ndV
  clear hs h8
  by_cases h0 : m = 1
  · subst h0
    have c0 := HS.out 0 (by omega)
    go_enter Tryz.func22, Tryz.ntmps22
    go_wp2_with (go_at_call 42; refine (l11E_any _ _).mono ?_; rintro e w' ⟨rfl, hw⟩; have hw2 := hw.symm; clear hw; subst hw2)
    go_ret
    exact ⟨⟨_, rfl, (eBool _).trans ((allE_1 kd).symm.trans ⟨fun h => HK.out.2 ⟨by simp, h⟩, fun h => (HK.out.1 h).2⟩)⟩, HB0.out⟩
  · have hq : ((m : Int) == 1) = false := by rw [beq_eq_false_iff_ne]; omega
    have HN := hid (fun h => h0 (HK.out.1 h).1)
    clear h0
    go_enter Tryz.func22, Tryz.ntmps22
    go_wp2
    go_ret
    exact ⟨says_f HN.out, HB0.out⟩
set_option maxHeartbeats 4000000 in
theorem fit_17 : FI 17 := by
  intro op ty n kids t g m c kd w hm h8 hg hs
  have HB0 := hid ((Below.refl w.heap.size w).alloc (Nat.le_refl _) (.cells #[.int .i64 17, .int .i64 op, .int .i64 ty, .int .i64 n, .string t, .int .i64 kids] 63))
  have HS := hid (hs.below HB0.out hg)
  have HK := hid (ko_17 op ty n kids t m kd)
  unfold ndV
  clear hs h8
  by_cases h0 : m = 1
  · subst h0
    have c0 := HS.out 0 (by omega)
    go_enter Tryz.func22, Tryz.ntmps22
    go_wp2_with (go_at_call 42; refine (l11E_any _ _).mono ?_; rintro e w' ⟨rfl, hw⟩; have hw2 := hw.symm; clear hw; subst hw2)
    go_ret
    exact ⟨⟨_, rfl, (eBool _).trans ((allE_1 kd).symm.trans ⟨fun h => HK.out.2 ⟨by simp, h⟩, fun h => (HK.out.1 h).2⟩)⟩, HB0.out⟩
  · have hq : ((m : Int) == 1) = false := by rw [beq_eq_false_iff_ne]; omega
    have HN := hid (fun h => h0 (HK.out.1 h).1)
    clear h0
    go_enter Tryz.func22, Tryz.ntmps22
    go_wp2
    go_ret
    exact ⟨says_f HN.out, HB0.out⟩
set_option maxHeartbeats 4000000 in
theorem fit_19 : FI 19 := by
  intro op ty n kids t g m c kd w hm h8 hg hs
  have HB0 := hid ((Below.refl w.heap.size w).alloc (Nat.le_refl _) (.cells #[.int .i64 19, .int .i64 op, .int .i64 ty, .int .i64 n, .string t, .int .i64 kids] 63))
  have HS := hid (hs.below HB0.out hg)
  have HK := hid (ko_19 op ty n kids t m kd)
  unfold ndV
  clear hs h8
  by_cases h0 : m = 1
  · subst h0
    have c0 := HS.out 0 (by omega)
    go_enter Tryz.func22, Tryz.ntmps22
    go_wp2_with (go_at_call 42; refine (l11E_any _ _).mono ?_; rintro e w' ⟨rfl, hw⟩; have hw2 := hw.symm; clear hw; subst hw2)
    go_ret
    exact ⟨⟨_, rfl, (eBool _).trans ((allE_1 kd).symm.trans ⟨fun h => HK.out.2 ⟨by simp, h⟩, fun h => (HK.out.1 h).2⟩)⟩, HB0.out⟩
  · have hq : ((m : Int) == 1) = false := by rw [beq_eq_false_iff_ne]; omega
    have HN := hid (fun h => h0 (HK.out.1 h).1)
    clear h0
    go_enter Tryz.func22, Tryz.ntmps22
    go_wp2
    go_ret
    exact ⟨says_f HN.out, HB0.out⟩
end Go.Proofs.YtkngjbpbjjoneaaGreatDoor.Q
/-! Printed by gen_fit.py. -/
namespace Go.Proofs.YtkngjbpbjjoneaaGreatDoor.Q
open Go.RowKit Go.Shelf
set_option maxRecDepth 20000
set_option maxHeartbeats 4000000 in
theorem fit_6 : FI 6 := by
  intro op ty n kids t g m c kd w hm h8 hg hs
  have HB0 := hid ((Below.refl w.heap.size w).alloc (Nat.le_refl _) (.cells #[.int .i64 6, .int .i64 op, .int .i64 ty, .int .i64 n, .string t, .int .i64 kids] 63))
  have HS := hid (hs.below HB0.out hg)
  have HK := hid (ko_6 op ty n kids t m kd)
  unfold ndV
  clear hs h8
  by_cases h0 : m = 2
  · subst h0
    go_enter Tryz.func22, Tryz.ntmps22
    go_wp2_with (go_at_call 43; refine (l11AllE_any g _ c kd _ (by omega) HS.out).mono ?_; rintro e w' ⟨hs, hw⟩; have hw2 := hw.symm; clear hw; subst hw2; obtain ⟨b, rfl, hP⟩ := hs; have HP := hid hP; clear hP)
    go_ret
    exact ⟨⟨_, rfl, HP.out.trans ⟨fun h => HK.out.2 ⟨by simp, h⟩, fun h => (HK.out.1 h).2⟩⟩, HB0.out⟩
  · have hq : ((m : Int) == 2) = false := by rw [beq_eq_false_iff_ne]; omega
    have HN := hid (fun h => h0 (HK.out.1 h).1)
    clear h0
    go_enter Tryz.func22, Tryz.ntmps22
    go_wp2
    go_ret
    exact ⟨says_f HN.out, HB0.out⟩
set_option maxHeartbeats 4000000 in
theorem fit_18 : FI 18 := by
  intro op ty n kids t g m c kd w hm h8 hg hs
  have HB0 := hid ((Below.refl w.heap.size w).alloc (Nat.le_refl _) (.cells #[.int .i64 18, .int .i64 op, .int .i64 ty, .int .i64 n, .string t, .int .i64 kids] 63))
  have HS := hid (hs.below HB0.out hg)
  have HK := hid (ko_18 op ty n kids t m kd)
  unfold ndV
  clear hs h8
  by_cases h0 : m = 2
  · subst h0
    go_enter Tryz.func22, Tryz.ntmps22
    go_wp2_with (go_at_call 43; refine (l11AllE_any g _ c kd _ (by omega) HS.out).mono ?_; rintro e w' ⟨hs, hw⟩; have hw2 := hw.symm; clear hw; subst hw2; obtain ⟨b, rfl, hP⟩ := hs; have HP := hid hP; clear hP)
    go_ret
    exact ⟨⟨_, rfl, HP.out.trans ⟨fun h => HK.out.2 ⟨by simp, h⟩, fun h => (HK.out.1 h).2⟩⟩, HB0.out⟩
  · have hq : ((m : Int) == 2) = false := by rw [beq_eq_false_iff_ne]; omega
    have HN := hid (fun h => h0 (HK.out.1 h).1)
    clear h0
    go_enter Tryz.func22, Tryz.ntmps22
    go_wp2
    go_ret
    exact ⟨says_f HN.out, HB0.out⟩
set_option maxHeartbeats 4000000 in
theorem fit_7 : FI 7 := by
  intro op ty n kids t g m c kd w hm h8 hg hs
  have HB0 := hid ((Below.refl w.heap.size w).alloc (Nat.le_refl _) (.cells #[.int .i64 7, .int .i64 op, .int .i64 ty, .int .i64 n, .string t, .int .i64 kids] 63))
  have HS := hid (hs.below HB0.out hg)
  have HK := hid (ko_7 op ty n kids t m kd)
  unfold ndV
  clear hs h8
  by_cases h0 : m ≤ 8
  · have hq : (m : Int) ≤ 8 := by omega
    go_enter Tryz.func22, Tryz.ntmps22
    go_wp2_with (go_at_call 43; refine (l11AllE_any g _ c kd _ (by omega) HS.out).mono ?_; rintro e w' ⟨hs, hw⟩; have hw2 := hw.symm; clear hw; subst hw2; obtain ⟨b, rfl, hP⟩ := hs; have HP := hid hP; clear hP)
    go_ret
    exact ⟨⟨_, rfl, HP.out.trans ⟨fun h => HK.out.2 ⟨h0, h⟩, fun h => (HK.out.1 h).2⟩⟩, HB0.out⟩
  · have hq : ¬ (m : Int) ≤ 8 := by omega
    have HN := hid (fun h => h0 (HK.out.1 h).1)
    clear h0
    go_enter Tryz.func22, Tryz.ntmps22
    go_wp2
    go_ret
    exact ⟨says_f HN.out, HB0.out⟩
set_option maxHeartbeats 4000000 in
theorem fit_16 : FI 16 := by
  intro op ty n kids t g m c kd w hm h8 hg hs
  have HB0 := hid ((Below.refl w.heap.size w).alloc (Nat.le_refl _) (.cells #[.int .i64 16, .int .i64 op, .int .i64 ty, .int .i64 n, .string t, .int .i64 kids] 63))
  have HS := hid (hs.below HB0.out hg)
  have HK := hid (ko_16 op ty n kids t m kd)
  unfold ndV
  clear hs h8
  by_cases h0 : m ≤ 1
  · have hq : (m : Int) ≤ 1 := by omega
    go_enter Tryz.func22, Tryz.ntmps22
    go_wp2_with (go_at_call 43; refine (l11AllE_any g _ c kd _ (by omega) HS.out).mono ?_; rintro e w' ⟨hs, hw⟩; have hw2 := hw.symm; clear hw; subst hw2; obtain ⟨b, rfl, hP⟩ := hs; have HP := hid hP; clear hP)
    go_ret
    exact ⟨⟨_, rfl, HP.out.trans ⟨fun h => HK.out.2 ⟨h0, h⟩, fun h => (HK.out.1 h).2⟩⟩, HB0.out⟩
  · have hq : ¬ (m : Int) ≤ 1 := by omega
    have HN := hid (fun h => h0 (HK.out.1 h).1)
    clear h0
    go_enter Tryz.func22, Tryz.ntmps22
    go_wp2
    go_ret
    exact ⟨says_f HN.out, HB0.out⟩
set_option maxHeartbeats 4000000 in
theorem fit_8 : FI 8 := by
  intro op ty n kids t g m c kd w hm h8 hg hs
  have HB0 := hid ((Below.refl w.heap.size w).alloc (Nat.le_refl _) (.cells #[.int .i64 8, .int .i64 op, .int .i64 ty, .int .i64 n, .string t, .int .i64 kids] 63))
  have HS := hid (hs.below HB0.out hg)
  have HK := hid (ko_8 op ty n kids t m kd)
  unfold ndV
  clear hs
  obtain ⟨h1, h2⟩ := h8 rfl
  have HBW : Hid (∀ W, Calls Tryz.prog 44 #[.int .i64 op] W fun e w' => (∃ s, e = .returned (.tuple #[.string s, .int .i64 (builtKids op)])) ∧ w' = W) := fun W => l10BuiltWord_kids op h1 h2 W
  generalize builtKids op = bk at *
  clear h8 h1 h2
  by_cases h0 : m = bk
  · subst h0
    have hq : ((m : Int) == (m : Int)) = true := by simp
    go_enter Tryz.func22, Tryz.ntmps22
    go_wp2_with (first
      | (go_at_call 44; refine (HBW.out _).mono ?_; rintro e w' ⟨⟨s0, rfl⟩, hw⟩; have hw2 := hw.symm; clear hw; subst hw2)
      | (go_at_call 43; refine (l11AllE_any g _ c kd _ (by omega) HS.out).mono ?_; rintro e w' ⟨hs, hw⟩; have hw2 := hw.symm; clear hw; subst hw2; obtain ⟨b, rfl, hP⟩ := hs; have HP := hid hP; clear hP))
    go_ret
    exact ⟨⟨_, rfl, HP.out.trans ⟨fun h => HK.out.2 ⟨by simp, h⟩, fun h => (HK.out.1 h).2⟩⟩, HB0.out⟩
  · have hq : ((m : Int) == (bk : Int)) = false := by rw [beq_eq_false_iff_ne]; omega
    have HN := hid (fun h => h0 (HK.out.1 h).1)
    clear h0
    go_enter Tryz.func22, Tryz.ntmps22
    go_wp2_with (go_at_call 44; refine (HBW.out _).mono ?_; rintro e w' ⟨⟨s0, rfl⟩, hw⟩; have hw2 := hw.symm; clear hw; subst hw2)
    go_ret
    exact ⟨says_f HN.out, HB0.out⟩
end Go.Proofs.YtkngjbpbjjoneaaGreatDoor.Q
