import Derived.Test.YtjbhadpdbcelcaaDoorQFitU
/-! Printed by gen_fit.py. -/
namespace Go.Proofs.YtjbhadpdbcelcaaDoor.Q
open Go.RowKit Go.Shelf
set_option maxRecDepth 20000
set_option maxHeartbeats 4000000 in
theorem fit_1 : FI 1 := by
  intro op ty n kids t g m c kd w hm h8 hg hs
  have HB0 := hid ((Below.refl w.heap.size w).alloc (Nat.le_refl _) (.cells #[.int .i64 1, .int .i64 op, .int .i64 ty, .int .i64 n, .string t, .int .i64 kids] 39))
  have HS := hid (hs.below HB0.out hg)
  have HK := hid (ko_1 op ty n kids t m kd)
  unfold ndV
  clear hs h8
  by_cases h0 : m = 0
  · subst h0
    go_enter Tryd.func12, Tryd.ntmps12
    go_wp2
    go_ret
    exact ⟨says_t (HK.out.2 (by simp)), HB0.out⟩
  · have hq : ((m : Int) == 0) = false := by rw [beq_eq_false_iff_ne]; omega
    have HN := hid (fun h => h0 (HK.out.1 h))
    clear h0
    go_enter Tryd.func12, Tryd.ntmps12
    go_wp2
    go_ret
    exact ⟨says_f HN.out, HB0.out⟩
set_option maxHeartbeats 4000000 in
theorem fit_2 : FI 2 := by
  intro op ty n kids t g m c kd w hm h8 hg hs
  have HB0 := hid ((Below.refl w.heap.size w).alloc (Nat.le_refl _) (.cells #[.int .i64 2, .int .i64 op, .int .i64 ty, .int .i64 n, .string t, .int .i64 kids] 39))
  have HS := hid (hs.below HB0.out hg)
  have HK := hid (ko_2 op ty n kids t m kd)
  unfold ndV
  clear hs h8
  by_cases h0 : m = 0
  · subst h0
    go_enter Tryd.func12, Tryd.ntmps12
    go_wp2
    go_ret
    exact ⟨says_t (HK.out.2 (by simp)), HB0.out⟩
  · have hq : ((m : Int) == 0) = false := by rw [beq_eq_false_iff_ne]; omega
    have HN := hid (fun h => h0 (HK.out.1 h))
    clear h0
    go_enter Tryd.func12, Tryd.ntmps12
    go_wp2
    go_ret
    exact ⟨says_f HN.out, HB0.out⟩
set_option maxHeartbeats 4000000 in
theorem fit_3 : FI 3 := by
  intro op ty n kids t g m c kd w hm h8 hg hs
  have HB0 := hid ((Below.refl w.heap.size w).alloc (Nat.le_refl _) (.cells #[.int .i64 3, .int .i64 op, .int .i64 ty, .int .i64 n, .string t, .int .i64 kids] 39))
  have HS := hid (hs.below HB0.out hg)
  have HK := hid (ko_3 op ty n kids t m kd)
  unfold ndV
  clear hs h8
  by_cases h0 : m = 0
  · subst h0
    go_enter Tryd.func12, Tryd.ntmps12
    go_wp2
    go_ret
    exact ⟨says_t (HK.out.2 (by simp)), HB0.out⟩
  · have hq : ((m : Int) == 0) = false := by rw [beq_eq_false_iff_ne]; omega
    have HN := hid (fun h => h0 (HK.out.1 h))
    clear h0
    go_enter Tryd.func12, Tryd.ntmps12
    go_wp2
    go_ret
    exact ⟨says_f HN.out, HB0.out⟩
set_option maxHeartbeats 4000000 in
theorem fit_4 : FI 4 := by
  intro op ty n kids t g m c kd w hm h8 hg hs
  have HB0 := hid ((Below.refl w.heap.size w).alloc (Nat.le_refl _) (.cells #[.int .i64 4, .int .i64 op, .int .i64 ty, .int .i64 n, .string t, .int .i64 kids] 39))
  have HS := hid (hs.below HB0.out hg)
  have HK := hid (ko_4 op ty n kids t m kd)
  unfold ndV
  clear hs h8
  by_cases h0 : m = 0
  · subst h0
    go_enter Tryd.func12, Tryd.ntmps12
    go_wp2
    go_ret
    exact ⟨says_t (HK.out.2 (by simp)), HB0.out⟩
  · have hq : ((m : Int) == 0) = false := by rw [beq_eq_false_iff_ne]; omega
    have HN := hid (fun h => h0 (HK.out.1 h))
    clear h0
    go_enter Tryd.func12, Tryd.ntmps12
    go_wp2
    go_ret
    exact ⟨says_f HN.out, HB0.out⟩
set_option maxHeartbeats 4000000 in
theorem fit_14 : FI 14 := by
  intro op ty n kids t g m c kd w hm h8 hg hs
  have HB0 := hid ((Below.refl w.heap.size w).alloc (Nat.le_refl _) (.cells #[.int .i64 14, .int .i64 op, .int .i64 ty, .int .i64 n, .string t, .int .i64 kids] 39))
  have HS := hid (hs.below HB0.out hg)
  have HK := hid (ko_14 op ty n kids t m kd)
  unfold ndV
  clear hs h8
  by_cases h0 : m = 0
  · subst h0
    go_enter Tryd.func12, Tryd.ntmps12
    go_wp2
    go_ret
    exact ⟨says_t (HK.out.2 (by simp)), HB0.out⟩
  · have hq : ((m : Int) == 0) = false := by rw [beq_eq_false_iff_ne]; omega
    have HN := hid (fun h => h0 (HK.out.1 h))
    clear h0
    go_enter Tryd.func12, Tryd.ntmps12
    go_wp2
    go_ret
    exact ⟨says_f HN.out, HB0.out⟩
set_option maxHeartbeats 4000000 in
theorem fit_15 : FI 15 := by
  intro op ty n kids t g m c kd w hm h8 hg hs
  have HB0 := hid ((Below.refl w.heap.size w).alloc (Nat.le_refl _) (.cells #[.int .i64 15, .int .i64 op, .int .i64 ty, .int .i64 n, .string t, .int .i64 kids] 39))
  have HS := hid (hs.below HB0.out hg)
  have HK := hid (ko_15 op ty n kids t m kd)
  unfold ndV
  clear hs h8
  by_cases h0 : m = 0
  · subst h0
    go_enter Tryd.func12, Tryd.ntmps12
    go_wp2
    go_ret
    exact ⟨says_t (HK.out.2 (by simp)), HB0.out⟩
  · have hq : ((m : Int) == 0) = false := by rw [beq_eq_false_iff_ne]; omega
    have HN := hid (fun h => h0 (HK.out.1 h))
    clear h0
    go_enter Tryd.func12, Tryd.ntmps12
    go_wp2
    go_ret
    exact ⟨says_f HN.out, HB0.out⟩
set_option maxHeartbeats 4000000 in
theorem fit_22 : FI 22 := by
  intro op ty n kids t g m c kd w hm h8 hg hs
  have HB0 := hid ((Below.refl w.heap.size w).alloc (Nat.le_refl _) (.cells #[.int .i64 22, .int .i64 op, .int .i64 ty, .int .i64 n, .string t, .int .i64 kids] 39))
  have HS := hid (hs.below HB0.out hg)
  have HK := hid (ko_22 op ty n kids t m kd)
  unfold ndV
  clear hs h8
  by_cases h0 : m = 0
  · subst h0
    go_enter Tryd.func12, Tryd.ntmps12
    go_wp2
    go_ret
    exact ⟨says_t (HK.out.2 (by simp)), HB0.out⟩
  · have hq : ((m : Int) == 0) = false := by rw [beq_eq_false_iff_ne]; omega
    have HN := hid (fun h => h0 (HK.out.1 h))
    clear h0
    go_enter Tryd.func12, Tryd.ntmps12
    go_wp2
    go_ret
    exact ⟨says_f HN.out, HB0.out⟩
end Go.Proofs.YtjbhadpdbcelcaaDoor.Q
