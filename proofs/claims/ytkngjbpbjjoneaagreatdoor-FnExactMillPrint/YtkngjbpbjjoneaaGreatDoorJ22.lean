import Derived.Test.YtkngjbpbjjoneaaGreatDoorJ16
import Derived.Test.YtkngjbpbjjoneaaGreatDoorJ17
import Derived.Test.YtkngjbpbjjoneaaGreatDoorJ18
import Derived.Test.YtkngjbpbjjoneaaGreatDoorJ19
/-! Printed by gen_fit.py. -/
namespace Go.Proofs.YtkngjbpbjjoneaaGreatDoor.Q
open Go.RowKit Go.Shelf
set_option maxRecDepth 20000
theorem l11Fits_any (x : Nd) (g m c : Nat) (kd : Nat → Int) (w : World) (hm : m ≤ 12001) (h8 : x.kind = 8 → 1 ≤ x.op ∧ x.op ≤ 12) (hg : g < w.heap.size) (hs : IntsAt w g m kd) :
    Calls Tryz.prog 22 #[ndV x, .slice (some ⟨g, 0, none⟩) m c] w fun e w' => Says e (KidsOk x m kd) ∧ Below w.heap.size w w' := by
  obtain ⟨k, op, ty, n, t, kids⟩ := x
  have h : FI k := by
    by_cases hk : k < 1 ∨ 24 < k
    · exact fit_E k hk
    · obtain rfl | rfl | rfl | rfl | rfl | rfl | rfl | rfl | rfl | rfl | rfl | rfl | rfl | rfl | rfl | rfl | rfl | rfl | rfl | rfl | rfl | rfl | rfl | rfl : k = 1 ∨ k = 2 ∨ k = 3 ∨ k = 4 ∨ k = 5 ∨ k = 6 ∨ k = 7 ∨ k = 8 ∨ k = 9 ∨ k = 10 ∨ k = 11 ∨ k = 12 ∨ k = 13 ∨ k = 14 ∨ k = 15 ∨ k = 16 ∨ k = 17 ∨ k = 18 ∨ k = 19 ∨ k = 20 ∨ k = 21 ∨ k = 22 ∨ k = 23 ∨ k = 24 := by omega
      · exact fit_1
      · exact fit_2
      · exact fit_3
      · exact fit_4
      · exact fit_5
      · exact fit_6
      · exact fit_7
      · exact fit_8
      · exact fit_9
      · exact fit_10
      · exact fit_11
      · exact fit_12
      · exact fit_13
      · exact fit_14
      · exact fit_15
      · exact fit_16
      · exact fit_17
      · exact fit_18
      · exact fit_19
      · exact fit_20
      · exact fit_21
      · exact fit_22
      · exact fit_23
      · exact fit_24
  exact h op ty n kids t g m c kd w hm h8 hg hs
end Go.Proofs.YtkngjbpbjjoneaaGreatDoor.Q
/-! Printed by gen_fld.py. -/
namespace Go.Proofs.YtkngjbpbjjoneaaGreatDoor.Q
open Go.RowKit Go.Shelf
set_option maxRecDepth 20000
theorem l11Fields_any (x : Nd) (w : World) (ht : x.text.size ≤ maxLen) :
    Calls Tryz.prog 21 #[ndV x] w fun e w' => Says e (PlainNd x) ∧ Below w.heap.size w w' := by
  obtain ⟨k, op, ty, n, t, kids⟩ := x
  have h : PF k := by
    by_cases hk : k < 1 ∨ 24 < k
    · exact fld_E k hk
    · obtain rfl | rfl | rfl | rfl | rfl | rfl | rfl | rfl | rfl | rfl | rfl | rfl | rfl | rfl | rfl | rfl | rfl | rfl | rfl | rfl | rfl | rfl | rfl | rfl : k = 1 ∨ k = 2 ∨ k = 3 ∨ k = 4 ∨ k = 5 ∨ k = 6 ∨ k = 7 ∨ k = 8 ∨ k = 9 ∨ k = 10 ∨ k = 11 ∨ k = 12 ∨ k = 13 ∨ k = 14 ∨ k = 15 ∨ k = 16 ∨ k = 17 ∨ k = 18 ∨ k = 19 ∨ k = 20 ∨ k = 21 ∨ k = 22 ∨ k = 23 ∨ k = 24 := by omega
      · exact fld_1
      · exact fld_2
      · exact fld_3
      · exact fld_4
      · exact fld_5
      · exact fld_6
      · exact fld_7
      · exact fld_8
      · exact fld_9
      · exact fld_10
      · exact fld_11
      · exact fld_12
      · exact fld_13
      · exact fld_14
      · exact fld_15
      · exact fld_16
      · exact fld_17
      · exact fld_18
      · exact fld_19
      · exact fld_20
      · exact fld_21
      · exact fld_22
      · exact fld_23
      · exact fld_24
  exact h op ty n kids t w ht
end Go.Proofs.YtkngjbpbjjoneaaGreatDoor.Q
/-! Printed by gen_fit.py. -/
namespace Go.Proofs.YtkngjbpbjjoneaaGreatDoor.Q
open Go.RowKit Go.Shelf
set_option maxRecDepth 20000
set_option maxHeartbeats 4000000 in
theorem kf_1 : KF 1 := by
  intro op ty n kids t ad m c st sh w hm h8 hcm hc hs he
  have HB0 := hid ((Below.refl w.heap.size w).alloc (Nat.le_refl _) (.cells #[.int .i64 1, .int .i64 op, .int .i64 ty, .int .i64 n, .string t, .int .i64 kids] 63))
  have HS := hid (hs.below HB0.out)
  have HK := hid (ko_1 op ty n kids t m st)
  unfold ndV
  clear hs he h8
  by_cases h0 : m = 0
  · subst h0
    go_enter Tryz.func28, Tryz.ntmps28
    go_wp2
    go_ret
    exact ⟨says_t (HK.out.2 (by simp)), HB0.out⟩
  · have hq : ((m : Int) == 0) = false := by rw [beq_eq_false_iff_ne]; omega
    have HN := hid (fun h => h0 (HK.out.1 h))
    clear h0
    go_enter Tryz.func28, Tryz.ntmps28
    go_wp2
    go_ret
    exact ⟨says_f HN.out, HB0.out⟩
set_option maxHeartbeats 4000000 in
theorem kf_2 : KF 2 := by
  intro op ty n kids t ad m c st sh w hm h8 hcm hc hs he
  have HB0 := hid ((Below.refl w.heap.size w).alloc (Nat.le_refl _) (.cells #[.int .i64 2, .int .i64 op, .int .i64 ty, .int .i64 n, .string t, .int .i64 kids] 63))
  have HS := hid (hs.below HB0.out)
  have HK := hid (ko_2 op ty n kids t m st)
  unfold ndV
  clear hs he h8
  by_cases h0 : m = 0
  · subst h0
    go_enter Tryz.func28, Tryz.ntmps28
    go_wp2
    go_ret
    exact ⟨says_t (HK.out.2 (by simp)), HB0.out⟩
  · have hq : ((m : Int) == 0) = false := by rw [beq_eq_false_iff_ne]; omega
    have HN := hid (fun h => h0 (HK.out.1 h))
    clear h0
    go_enter Tryz.func28, Tryz.ntmps28
    go_wp2
    go_ret
    exact ⟨says_f HN.out, HB0.out⟩
set_option maxHeartbeats 4000000 in
theorem kf_3 : KF 3 := by
  intro op ty n kids t ad m c st sh w hm h8 hcm hc hs he
  have HB0 := hid ((Below.refl w.heap.size w).alloc (Nat.le_refl _) (.cells #[.int .i64 3, .int .i64 op, .int .i64 ty, .int .i64 n, .string t, .int .i64 kids] 63))
  have HS := hid (hs.below HB0.out)
  have HK := hid (ko_3 op ty n kids t m st)
  unfold ndV
  clear hs he h8
  by_cases h0 : m = 0
  · subst h0
    go_enter Tryz.func28, Tryz.ntmps28
    go_wp2
    go_ret
    exact ⟨says_t (HK.out.2 (by simp)), HB0.out⟩
  · have hq : ((m : Int) == 0) = false := by rw [beq_eq_false_iff_ne]; omega
    have HN := hid (fun h => h0 (HK.out.1 h))
    clear h0
    go_enter Tryz.func28, Tryz.ntmps28
    go_wp2
    go_ret
    exact ⟨says_f HN.out, HB0.out⟩
set_option maxHeartbeats 4000000 in
theorem kf_4 : KF 4 := by
  intro op ty n kids t ad m c st sh w hm h8 hcm hc hs he
  have HB0 := hid ((Below.refl w.heap.size w).alloc (Nat.le_refl _) (.cells #[.int .i64 4, .int .i64 op, .int .i64 ty, .int .i64 n, .string t, .int .i64 kids] 63))
  have HS := hid (hs.below HB0.out)
  have HK := hid (ko_4 op ty n kids t m st)
  unfold ndV
  clear hs he h8
  by_cases h0 : m = 0
  · subst h0
    go_enter Tryz.func28, Tryz.ntmps28
    go_wp2
    go_ret
    exact ⟨says_t (HK.out.2 (by simp)), HB0.out⟩
  · have hq : ((m : Int) == 0) = false := by rw [beq_eq_false_iff_ne]; omega
    have HN := hid (fun h => h0 (HK.out.1 h))
    clear h0
    go_enter Tryz.func28, Tryz.ntmps28
    go_wp2
    go_ret
    exact ⟨says_f HN.out, HB0.out⟩
set_option maxHeartbeats 4000000 in
theorem kf_14 : KF 14 := by
  intro op ty n kids t ad m c st sh w hm h8 hcm hc hs he
  have HB0 := hid ((Below.refl w.heap.size w).alloc (Nat.le_refl _) (.cells #[.int .i64 14, .int .i64 op, .int .i64 ty, .int .i64 n, .string t, .int .i64 kids] 63))
  have HS := hid (hs.below HB0.out)
  have HK := hid (ko_14 op ty n kids t m st)
  unfold ndV
  clear hs he h8
  by_cases h0 : m = 0
  · subst h0
    go_enter Tryz.func28, Tryz.ntmps28
    go_wp2
    go_ret
    exact ⟨says_t (HK.out.2 (by simp)), HB0.out⟩
  · have hq : ((m : Int) == 0) = false := by rw [beq_eq_false_iff_ne]; omega
    have HN := hid (fun h => h0 (HK.out.1 h))
    clear h0
    go_enter Tryz.func28, Tryz.ntmps28
    go_wp2
    go_ret
    exact ⟨says_f HN.out, HB0.out⟩
set_option maxHeartbeats 4000000 in
theorem kf_15 : KF 15 := by
  intro op ty n kids t ad m c st sh w hm h8 hcm hc hs he
  have HB0 := hid ((Below.refl w.heap.size w).alloc (Nat.le_refl _) (.cells #[.int .i64 15, .int .i64 op, .int .i64 ty, .int .i64 n, .string t, .int .i64 kids] 63))
  have HS := hid (hs.below HB0.out)
  have HK := hid (ko_15 op ty n kids t m st)
  unfold ndV
  clear hs he h8
  by_cases h0 : m = 0
  · subst h0
    go_enter Tryz.func28, Tryz.ntmps28
    go_wp2
    go_ret
    exact ⟨says_t (HK.out.2 (by simp)), HB0.out⟩
  · have hq : ((m : Int) == 0) = false := by rw [beq_eq_false_iff_ne]; omega
    have HN := hid (fun h => h0 (HK.out.1 h))
    clear h0
    go_enter Tryz.func28, Tryz.ntmps28
    go_wp2
    go_ret
    exact ⟨says_f HN.out, HB0.out⟩
set_option maxHeartbeats 4000000 in
theorem kf_22 : KF 22 := by
  intro op ty n kids t ad m c st sh w hm h8 hcm hc hs he
  have HB0 := hid ((Below.refl w.heap.size w).alloc (Nat.le_refl _) (.cells #[.int .i64 22, .int .i64 op, .int .i64 ty, .int .i64 n, .string t, .int .i64 kids] 63))
  have HS := hid (hs.below HB0.out)
  have HK := hid (ko_22 op ty n kids t m st)
  unfold ndV
  clear hs he h8
  by_cases h0 : m = 0
  · subst h0
    go_enter Tryz.func28, Tryz.ntmps28
    go_wp2
    go_ret
    exact ⟨says_t (HK.out.2 (by simp)), HB0.out⟩
  · have hq : ((m : Int) == 0) = false := by rw [beq_eq_false_iff_ne]; omega
    have HN := hid (fun h => h0 (HK.out.1 h))
    clear h0
    go_enter Tryz.func28, Tryz.ntmps28
    go_wp2
    go_ret
    exact ⟨says_f HN.out, HB0.out⟩
set_option maxHeartbeats 4000000 in
theorem kf_5 : KF 5 := by
  intro op ty n kids t ad m c st sh w hm h8 hcm hc hs he
  have HB0 := hid ((Below.refl w.heap.size w).alloc (Nat.le_refl _) (.cells #[.int .i64 5, .int .i64 op, .int .i64 ty, .int .i64 n, .string t, .int .i64 kids] 63))
  have HS := hid (hs.below HB0.out)
  have HK := hid (ko_5 op ty n kids t m st)
  unfold ndV
  clear hs he h8
  go_enter Tryz.func28, Tryz.ntmps28
  go_wp2_with (go_at_call 51; refine (areE_any ad m c _ _ st sh _ hm HS.out).mono ?_; rintro e w1 ⟨hs, hb⟩; have HB := hid (HB0.out.trans (hb.mono (by simp))); obtain ⟨b, rfl, hP⟩ := hs; have HP := hid hP; clear hb hP)
  go_ret
  refine ⟨⟨_, rfl, HP.out.trans ?_⟩, HB.out⟩
  rw [HK.out]
  constructor
  · rintro ⟨h1, h2, h3⟩; exact ⟨by omega, h3⟩
  · rintro ⟨h1, h3⟩; exact ⟨by omega, by omega, h3⟩
set_option maxHeartbeats 4000000 in
theorem kf_9 : KF 9 := by
  intro op ty n kids t ad m c st sh w hm h8 hcm hc hs he
  have HB0 := hid ((Below.refl w.heap.size w).alloc (Nat.le_refl _) (.cells #[.int .i64 9, .int .i64 op, .int .i64 ty, .int .i64 n, .string t, .int .i64 kids] 63))
  have HS := hid (hs.below HB0.out)
  have HK := hid (ko_9 op ty n kids t m st)
  unfold ndV
  clear hs he h8
  go_enter Tryz.func28, Tryz.ntmps28
  go_wp2_with (go_at_call 51; refine (areE_any ad m c _ _ st sh _ hm HS.out).mono ?_; rintro e w1 ⟨hs, hb⟩; have HB := hid (HB0.out.trans (hb.mono (by simp))); obtain ⟨b, rfl, hP⟩ := hs; have HP := hid hP; clear hb hP)
  go_ret
  refine ⟨⟨_, rfl, HP.out.trans ?_⟩, HB.out⟩
  rw [HK.out]
  constructor
  · rintro ⟨h1, h2, h3⟩; exact ⟨by omega, h3⟩
  · rintro ⟨h1, h3⟩; exact ⟨by omega, by omega, h3⟩
set_option maxHeartbeats 4000000 in
theorem kf_10 : KF 10 := by
  intro op ty n kids t ad m c st sh w hm h8 hcm hc hs he
  have HB0 := hid ((Below.refl w.heap.size w).alloc (Nat.le_refl _) (.cells #[.int .i64 10, .int .i64 op, .int .i64 ty, .int .i64 n, .string t, .int .i64 kids] 63))
  have HS := hid (hs.below HB0.out)
  have HK := hid (ko_10 op ty n kids t m st)
  unfold ndV
  clear hs he h8
  go_enter Tryz.func28, Tryz.ntmps28
  go_wp2_with (go_at_call 51; refine (areE_any ad m c _ _ st sh _ hm HS.out).mono ?_; rintro e w1 ⟨hs, hb⟩; have HB := hid (HB0.out.trans (hb.mono (by simp))); obtain ⟨b, rfl, hP⟩ := hs; have HP := hid hP; clear hb hP)
  go_ret
  refine ⟨⟨_, rfl, HP.out.trans ?_⟩, HB.out⟩
  rw [HK.out]
  constructor
  · rintro ⟨h1, h2, h3⟩; exact ⟨by omega, h3⟩
  · rintro ⟨h1, h3⟩; exact ⟨by omega, by omega, h3⟩
set_option maxHeartbeats 4000000 in
theorem kf_11 : KF 11 := by
  intro op ty n kids t ad m c st sh w hm h8 hcm hc hs he
  have HB0 := hid ((Below.refl w.heap.size w).alloc (Nat.le_refl _) (.cells #[.int .i64 11, .int .i64 op, .int .i64 ty, .int .i64 n, .string t, .int .i64 kids] 63))
  have HS := hid (hs.below HB0.out)
  have HK := hid (ko_11 op ty n kids t m st)
  unfold ndV
  clear hs he h8
  go_enter Tryz.func28, Tryz.ntmps28
  go_wp2_with (go_at_call 51; refine (areE_any ad m c _ _ st sh _ hm HS.out).mono ?_; rintro e w1 ⟨hs, hb⟩; have HB := hid (HB0.out.trans (hb.mono (by simp))); obtain ⟨b, rfl, hP⟩ := hs; have HP := hid hP; clear hb hP)
  go_ret
  refine ⟨⟨_, rfl, HP.out.trans ?_⟩, HB.out⟩
  rw [HK.out]
  constructor
  · rintro ⟨h1, h2, h3⟩; exact ⟨by omega, h3⟩
  · rintro ⟨h1, h3⟩; exact ⟨by omega, by omega, h3⟩
set_option maxHeartbeats 4000000 in
theorem kf_17 : KF 17 := by
  intro op ty n kids t ad m c st sh w hm h8 hcm hc hs he
  have HB0 := hid ((Below.refl w.heap.size w).alloc (Nat.le_refl _) (.cells #[.int .i64 17, .int .i64 op, .int .i64 ty, .int .i64 n, .string t, .int .i64 kids] 63))
  have HS := hid (hs.below HB0.out)
  have HK := hid (ko_17 op ty n kids t m st)
  unfold ndV
  clear hs he h8
  go_enter Tryz.func28, Tryz.ntmps28
  go_wp2_with (go_at_call 51; refine (areE_any ad m c _ _ st sh _ hm HS.out).mono ?_; rintro e w1 ⟨hs, hb⟩; have HB := hid (HB0.out.trans (hb.mono (by simp))); obtain ⟨b, rfl, hP⟩ := hs; have HP := hid hP; clear hb hP)
  go_ret
  refine ⟨⟨_, rfl, HP.out.trans ?_⟩, HB.out⟩
  rw [HK.out]
  constructor
  · rintro ⟨h1, h2, h3⟩; exact ⟨by omega, h3⟩
  · rintro ⟨h1, h3⟩; exact ⟨by omega, by omega, h3⟩
set_option maxHeartbeats 4000000 in
theorem kf_19 : KF 19 := by
  intro op ty n kids t ad m c st sh w hm h8 hcm hc hs he
  have HB0 := hid ((Below.refl w.heap.size w).alloc (Nat.le_refl _) (.cells #[.int .i64 19, .int .i64 op, .int .i64 ty, .int .i64 n, .string t, .int .i64 kids] 63))
  have HS := hid (hs.below HB0.out)
  have HK := hid (ko_19 op ty n kids t m st)
  unfold ndV
  clear hs he h8
  go_enter Tryz.func28, Tryz.ntmps28
  go_wp2_with (go_at_call 51; refine (areE_any ad m c _ _ st sh _ hm HS.out).mono ?_; rintro e w1 ⟨hs, hb⟩; have HB := hid (HB0.out.trans (hb.mono (by simp))); obtain ⟨b, rfl, hP⟩ := hs; have HP := hid hP; clear hb hP)
  go_ret
  refine ⟨⟨_, rfl, HP.out.trans ?_⟩, HB.out⟩
  rw [HK.out]
  constructor
  · rintro ⟨h1, h2, h3⟩; exact ⟨by omega, h3⟩
  · rintro ⟨h1, h3⟩; exact ⟨by omega, by omega, h3⟩
set_option maxHeartbeats 4000000 in
theorem kf_6 : KF 6 := by
  intro op ty n kids t ad m c st sh w hm h8 hcm hc hs he
  have HB0 := hid ((Below.refl w.heap.size w).alloc (Nat.le_refl _) (.cells #[.int .i64 6, .int .i64 op, .int .i64 ty, .int .i64 n, .string t, .int .i64 kids] 63))
  have HS := hid (hs.below HB0.out)
  have HK := hid (ko_6 op ty n kids t m st)
  unfold ndV
  clear hs he h8
  go_enter Tryz.func28, Tryz.ntmps28
  go_wp2_with (go_at_call 51; refine (areE_any ad m c _ _ st sh _ hm HS.out).mono ?_; rintro e w1 ⟨hs, hb⟩; have HB := hid (HB0.out.trans (hb.mono (by simp))); obtain ⟨b, rfl, hP⟩ := hs; have HP := hid hP; clear hb hP)
  go_ret
  refine ⟨⟨_, rfl, HP.out.trans ?_⟩, HB.out⟩
  rw [HK.out]
  constructor
  · rintro ⟨h1, h2, h3⟩; exact ⟨by omega, h3⟩
  · rintro ⟨h1, h3⟩; exact ⟨by omega, by omega, h3⟩
set_option maxHeartbeats 4000000 in
theorem kf_18 : KF 18 := by
  intro op ty n kids t ad m c st sh w hm h8 hcm hc hs he
  have HB0 := hid ((Below.refl w.heap.size w).alloc (Nat.le_refl _) (.cells #[.int .i64 18, .int .i64 op, .int .i64 ty, .int .i64 n, .string t, .int .i64 kids] 63))
  have HS := hid (hs.below HB0.out)
  have HK := hid (ko_18 op ty n kids t m st)
  unfold ndV
  clear hs he h8
  go_enter Tryz.func28, Tryz.ntmps28
  go_wp2_with (go_at_call 51; refine (areE_any ad m c _ _ st sh _ hm HS.out).mono ?_; rintro e w1 ⟨hs, hb⟩; have HB := hid (HB0.out.trans (hb.mono (by simp))); obtain ⟨b, rfl, hP⟩ := hs; have HP := hid hP; clear hb hP)
  go_ret
  refine ⟨⟨_, rfl, HP.out.trans ?_⟩, HB.out⟩
  rw [HK.out]
  constructor
  · rintro ⟨h1, h2, h3⟩; exact ⟨by omega, h3⟩
  · rintro ⟨h1, h3⟩; exact ⟨by omega, by omega, h3⟩
set_option maxHeartbeats 4000000 in
theorem kf_7 : KF 7 := by
  intro op ty n kids t ad m c st sh w hm h8 hcm hc hs he
  have HB0 := hid ((Below.refl w.heap.size w).alloc (Nat.le_refl _) (.cells #[.int .i64 7, .int .i64 op, .int .i64 ty, .int .i64 n, .string t, .int .i64 kids] 63))
  have HS := hid (hs.below HB0.out)
  have HK := hid (ko_7 op ty n kids t m st)
  unfold ndV
  clear hs he h8
  go_enter Tryz.func28, Tryz.ntmps28
  go_wp2_with (go_at_call 51; refine (areE_any ad m c _ _ st sh _ hm HS.out).mono ?_; rintro e w1 ⟨hs, hb⟩; have HB := hid (HB0.out.trans (hb.mono (by simp))); obtain ⟨b, rfl, hP⟩ := hs; have HP := hid hP; clear hb hP)
  go_ret
  refine ⟨⟨_, rfl, HP.out.trans ?_⟩, HB.out⟩
  rw [HK.out]
  constructor
  · rintro ⟨h1, h2, h3⟩; exact ⟨by omega, h3⟩
  · rintro ⟨h1, h3⟩; exact ⟨by omega, by omega, h3⟩
set_option maxHeartbeats 4000000 in
theorem kf_16 : KF 16 := by
  intro op ty n kids t ad m c st sh w hm h8 hcm hc hs he
  have HB0 := hid ((Below.refl w.heap.size w).alloc (Nat.le_refl _) (.cells #[.int .i64 16, .int .i64 op, .int .i64 ty, .int .i64 n, .string t, .int .i64 kids] 63))
  have HS := hid (hs.below HB0.out)
  have HK := hid (ko_16 op ty n kids t m st)
  unfold ndV
  clear hs he h8
  go_enter Tryz.func28, Tryz.ntmps28
  go_wp2_with (go_at_call 51; refine (areE_any ad m c _ _ st sh _ hm HS.out).mono ?_; rintro e w1 ⟨hs, hb⟩; have HB := hid (HB0.out.trans (hb.mono (by simp))); obtain ⟨b, rfl, hP⟩ := hs; have HP := hid hP; clear hb hP)
  go_ret
  refine ⟨⟨_, rfl, HP.out.trans ?_⟩, HB.out⟩
  rw [HK.out]
  constructor
  · rintro ⟨h1, h2, h3⟩; exact ⟨by omega, h3⟩
  · rintro ⟨h1, h3⟩; exact ⟨by omega, by omega, h3⟩
end Go.Proofs.YtkngjbpbjjoneaaGreatDoor.Q
