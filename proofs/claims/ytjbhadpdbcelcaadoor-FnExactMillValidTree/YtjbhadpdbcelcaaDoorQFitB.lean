import Derived.Test.YtjbhadpdbcelcaaDoorQFitU
/-! Printed by gen_fit.py. -/
namespace Go.Proofs.YtjbhadpdbcelcaaDoor.Q
open Go.RowKit Go.Shelf
set_option maxRecDepth 20000
set_option maxHeartbeats 4000000 in
theorem fit_5 : FI 5 := by
  intro op ty n kids t g m c kd w hm h8 hg hs
  have HB0 := hid ((Below.refl w.heap.size w).alloc (Nat.le_refl _) (.cells #[.int .i64 5, .int .i64 op, .int .i64 ty, .int .i64 n, .string t, .int .i64 kids] 39))
  have HS := hid (hs.below HB0.out hg)
  have HK := hid (ko_5 op ty n kids t m kd)
  unfold ndV
  clear hs h8
  by_cases h0 : m = 1
  · subst h0
    have c0 := HS.out 0 (by omega)
    go_enter Tryd.func12, Tryd.ntmps12
    go_wp2_with (go_at_call 25; refine (l11E_any _ _).mono ?_; rintro e w' ⟨rfl, hw⟩; have hw2 := hw.symm; clear hw; subst hw2)
    go_ret
    exact ⟨⟨_, rfl, (eBool _).trans ((allE_1 kd).symm.trans ⟨fun h => HK.out.2 ⟨by simp, h⟩, fun h => (HK.out.1 h).2⟩)⟩, HB0.out⟩
  · have hq : ((m : Int) == 1) = false := by rw [beq_eq_false_iff_ne]; omega
    have HN := hid (fun h => h0 (HK.out.1 h).1)
    clear h0
    go_enter Tryd.func12, Tryd.ntmps12
    go_wp2
    go_ret
    exact ⟨says_f HN.out, HB0.out⟩
set_option maxHeartbeats 4000000 in
theorem fit_9 : FI 9 := by
  intro op ty n kids t g m c kd w hm h8 hg hs
  have HB0 := hid ((Below.refl w.heap.size w).alloc (Nat.le_refl _) (.cells #[.int .i64 9, .int .i64 op, .int .i64 ty, .int .i64 n, .string t, .int .i64 kids] 39))
  have HS := hid (hs.below HB0.out hg)
  have HK := hid (ko_9 op ty n kids t m kd)
  unfold ndV
  clear hs h8
  by_cases h0 : m = 1
  · subst h0
    have c0 := HS.out 0 (by omega)
    go_enter Tryd.func12, Tryd.ntmps12
    go_wp2_with (go_at_call 25; refine (l11E_any _ _).mono ?_; rintro e w' ⟨rfl, hw⟩; have hw2 := hw.symm; clear hw; subst hw2)
    go_ret
    exact ⟨⟨_, rfl, (eBool _).trans ((allE_1 kd).symm.trans ⟨fun h => HK.out.2 ⟨by simp, h⟩, fun h => (HK.out.1 h).2⟩)⟩, HB0.out⟩
  · have hq : ((m : Int) == 1) = false := by rw [beq_eq_false_iff_ne]; omega
    have HN := hid (fun h => h0 (HK.out.1 h).1)
    clear h0
    go_enter Tryd.func12, Tryd.ntmps12
    go_wp2
    go_ret
    exact ⟨says_f HN.out, HB0.out⟩
set_option maxHeartbeats 4000000 in
theorem fit_10 : FI 10 := by
  intro op ty n kids t g m c kd w hm h8 hg hs
  have HB0 := hid ((Below.refl w.heap.size w).alloc (Nat.le_refl _) (.cells #[.int .i64 10, .int .i64 op, .int .i64 ty, .int .i64 n, .string t, .int .i64 kids] 39))
  have HS := hid (hs.below HB0.out hg)
  have HK := hid (ko_10 op ty n kids t m kd)
  unfold ndV
  clear hs h8
  by_cases h0 : m = 1
  · subst h0
    have c0 := HS.out 0 (by omega)
    go_enter Tryd.func12, Tryd.ntmps12
    go_wp2_with (go_at_call 25; refine (l11E_any _ _).mono ?_; rintro e w' ⟨rfl, hw⟩; have hw2 := hw.symm; clear hw; subst hw2)
    go_ret
    exact ⟨⟨_, rfl, (eBool _).trans ((allE_1 kd).symm.trans ⟨fun h => HK.out.2 ⟨by simp, h⟩, fun h => (HK.out.1 h).2⟩)⟩, HB0.out⟩
  · have hq : ((m : Int) == 1) = false := by rw [beq_eq_false_iff_ne]; omega
    have HN := hid (fun h => h0 (HK.out.1 h).1)
    clear h0
    go_enter Tryd.func12, Tryd.ntmps12
    go_wp2
    go_ret
    exact ⟨says_f HN.out, HB0.out⟩
set_option maxHeartbeats 4000000 in
theorem fit_11 : FI 11 := by
  intro op ty n kids t g m c kd w hm h8 hg hs
  have HB0 := hid ((Below.refl w.heap.size w).alloc (Nat.le_refl _) (.cells #[.int .i64 11, .int .i64 op, .int .i64 ty, .int .i64 n, .string t, .int .i64 kids] 39))
  have HS := hid (hs.below HB0.out hg)
  have HK := hid (ko_11 op ty n kids t m kd)
  unfold ndV
  clear hs h8
  by_cases h0 : m = 1
  · subst h0
    have c0 := HS.out 0 (by omega)
    go_enter Tryd.func12, Tryd.ntmps12
    go_wp2_with (go_at_call 25; refine (l11E_any _ _).mono ?_; rintro e w' ⟨rfl, hw⟩; have hw2 := hw.symm; clear hw; subst hw2)
    go_ret
    exact ⟨⟨_, rfl, (eBool _).trans ((allE_1 kd).symm.trans ⟨fun h => HK.out.2 ⟨by simp, h⟩, fun h => (HK.out.1 h).2⟩)⟩, HB0.out⟩
  · have hq : ((m : Int) == 1) = false := by rw [beq_eq_false_iff_ne]; omega
    have HN := hid (fun h => h0 (HK.out.1 h).1)
    clear h0
    go_enter Tryd.func12, Tryd.ntmps12
    go_wp2
    go_ret
    exact ⟨says_f HN.out, HB0.out⟩
set_option maxHeartbeats 4000000 in
theorem fit_17 : FI 17 := by
  intro op ty n kids t g m c kd w hm h8 hg hs
  have HB0 := hid ((Below.refl w.heap.size w).alloc (Nat.le_refl _) (.cells #[.int .i64 17, .int .i64 op, .int .i64 ty, .int .i64 n, .string t, .int .i64 kids] 39))
  have HS := hid (hs.below HB0.out hg)
  have HK := hid (ko_17 op ty n kids t m kd)
  unfold ndV
  clear hs h8
  by_cases h0 : m = 1
  · subst h0
    have c0 := HS.out 0 (by omega)
    go_enter Tryd.func12, Tryd.ntmps12
    go_wp2_with (go_at_call 25; refine (l11E_any _ _).mono ?_; rintro e w' ⟨rfl, hw⟩; have hw2 := hw.symm; clear hw; subst hw2)
    go_ret
    exact ⟨⟨_, rfl, (eBool _).trans ((allE_1 kd).symm.trans ⟨fun h => HK.out.2 ⟨by simp, h⟩, fun h => (HK.out.1 h).2⟩)⟩, HB0.out⟩
  · have hq : ((m : Int) == 1) = false := by rw [beq_eq_false_iff_ne]; omega
    have HN := hid (fun h => h0 (HK.out.1 h).1)
    clear h0
    go_enter Tryd.func12, Tryd.ntmps12
    go_wp2
    go_ret
    exact ⟨says_f HN.out, HB0.out⟩
set_option maxHeartbeats 4000000 in
theorem fit_19 : FI 19 := by
  intro op ty n kids t g m c kd w hm h8 hg hs
  have HB0 := hid ((Below.refl w.heap.size w).alloc (Nat.le_refl _) (.cells #[.int .i64 19, .int .i64 op, .int .i64 ty, .int .i64 n, .string t, .int .i64 kids] 39))
  have HS := hid (hs.below HB0.out hg)
  have HK := hid (ko_19 op ty n kids t m kd)
  unfold ndV
  clear hs h8
  by_cases h0 : m = 1
  · subst h0
    have c0 := HS.out 0 (by omega)
    go_enter Tryd.func12, Tryd.ntmps12
    go_wp2_with (go_at_call 25; refine (l11E_any _ _).mono ?_; rintro e w' ⟨rfl, hw⟩; have hw2 := hw.symm; clear hw; subst hw2)
    go_ret
    exact ⟨⟨_, rfl, (eBool _).trans ((allE_1 kd).symm.trans ⟨fun h => HK.out.2 ⟨by simp, h⟩, fun h => (HK.out.1 h).2⟩)⟩, HB0.out⟩
  · have hq : ((m : Int) == 1) = false := by rw [beq_eq_false_iff_ne]; omega
    have HN := hid (fun h => h0 (HK.out.1 h).1)
    clear h0
    go_enter Tryd.func12, Tryd.ntmps12
    go_wp2
    go_ret
    exact ⟨says_f HN.out, HB0.out⟩
end Go.Proofs.YtjbhadpdbcelcaaDoor.Q
