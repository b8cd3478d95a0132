import Derived.Test.YtjbhadpdbcelcaaDoorQKfU
/-! Printed by gen_fit.py. -/
namespace Go.Proofs.YtjbhadpdbcelcaaDoor.Q
open Go.RowKit Go.Shelf
set_option maxRecDepth 20000
set_option maxHeartbeats 4000000 in
theorem kf_21 : KF 21 := by
  intro op ty n kids t ad m c st sh w hm h8 hcm hc hs he
  have HB0 := hid ((Below.refl w.heap.size w).alloc (Nat.le_refl _) (.cells #[.int .i64 21, .int .i64 op, .int .i64 ty, .int .i64 n, .string t, .int .i64 kids] 39))
  have HS := hid (hs.below HB0.out)
  have HK := hid (ko_21 op ty n kids t m st)
  unfold ndV
  clear hs he h8
  go_enter Tryd.func16, Tryd.ntmps16
  go_wp2_with (go_at_call 36; refine (areKinds_any ad m c _ _ st sh _ hm HS.out).mono ?_; rintro e w1 ⟨hs, hb⟩; have HB := hid (HB0.out.trans (hb.mono (by simp))); obtain ⟨b, rfl, hP⟩ := hs; have HP := hid hP; clear hb hP)
  go_ret
  exact ⟨⟨_, rfl, HP.out.trans HK.out.symm⟩, HB.out⟩
set_option maxHeartbeats 4000000 in
theorem kf_24 : KF 24 := by
  intro op ty n kids t ad m c st sh w hm h8 hcm hc hs he
  have HB0 := hid ((Below.refl w.heap.size w).alloc (Nat.le_refl _) (.cells #[.int .i64 24, .int .i64 op, .int .i64 ty, .int .i64 n, .string t, .int .i64 kids] 39))
  have HS := hid (hs.below HB0.out)
  have HK := hid (ko_24 op ty n kids t m st)
  unfold ndV
  clear hs he h8
  by_cases h1 : 1 ≤ m
  · by_cases h9 : m ≤ 60
    · have h1' : (1 : Int) ≤ m := by omega
      have h9' : (m : Int) ≤ 60 := by omega
      go_enter Tryd.func16, Tryd.ntmps16
      go_wp2_with (go_at_call 36; refine (areKinds_any ad m c _ _ st sh _ hm HS.out).mono ?_; rintro e w1 ⟨hs, hb⟩; have HB := hid (HB0.out.trans (hb.mono (by simp))); obtain ⟨b, rfl, hP⟩ := hs; have HP := hid hP; clear hb hP)
      go_ret
      refine ⟨⟨_, rfl, HP.out.trans ?_⟩, HB.out⟩
      rw [HK.out]
      constructor
      · intro h; exact ⟨h1, h9, fun i hi => by have := h i hi; omega⟩
      · intro h i hi; have := h.2.2 i hi; omega
    · have h1' : (1 : Int) ≤ m := by omega
      have h9' : ¬ (m : Int) ≤ 60 := by omega
      have HN := hid (fun h => h9 (HK.out.1 h).2.1)
      go_enter Tryd.func16, Tryd.ntmps16
      go_wp2
      go_ret
      exact ⟨says_f HN.out, HB0.out⟩
  · have h1' : ¬ (1 : Int) ≤ m := by omega
    have HN := hid (fun h => h1 (HK.out.1 h).1)
    go_enter Tryd.func16, Tryd.ntmps16
    go_wp2
    go_ret
    exact ⟨says_f HN.out, HB0.out⟩
set_option maxHeartbeats 4000000 in
theorem kf_23 : KF 23 := by
  intro op ty n kids t ad m c st sh w hm h8 hcm hc hs he
  have HB0 := hid ((Below.refl w.heap.size w).alloc (Nat.le_refl _) (.cells #[.int .i64 23, .int .i64 op, .int .i64 ty, .int .i64 n, .string t, .int .i64 kids] 39))
  have HS := hid (hs.below HB0.out)
  have HK := hid (ko_23 op ty n kids t m st)
  unfold ndV
  clear he h8
  by_cases h1 : 1 ≤ m
  · obtain ⟨l, rfl⟩ : ∃ l, m = l + 1 := ⟨m - 1, by omega⟩
    obtain ⟨g, o, rfl, hg, hst⟩ : ∃ g o, ad = some ⟨g, o, none⟩ ∧ g < w.heap.size ∧ StandAt w g o (l + 1) st sh := by
      rcases hs with h | h
      · omega
      · exact h
    have HF := hid ((show StA w (some ⟨g, o, none⟩) l st sh from .inr ⟨g, o, rfl, hg, hst.front (by omega)⟩).below HB0.out)
    have HC : Hid (∀ W, Below w.heap.size w W → W.cell? ⟨g, o + l * 2, none⟩ = some (.int .i64 (st l))) := fun W hb => (hb.cell (p := ⟨g, o + l * 2, none⟩) hg).trans (hst l (by omega)).1
    clear hst hs HS
    by_cases h8 : l ≤ 8
    · cases e1 : (st l == 21)
      · have HN : Hid (¬ KidsOk ⟨23, op, ty, n, t, kids⟩ (l + 1) st) := fun h => by
          have := (HK.out.1 h).2.2.2
          simp only [Nat.add_sub_cancel] at this
          rw [this] at e1; cases e1
        go_enter Tryd.func16, Tryd.ntmps16
        go_wp2_with (go_at_call 36; refine (areKinds_any (some ⟨g, o, none⟩) l c _ _ st sh _ (by omega) HF.out).mono ?_; rintro e w1 ⟨hs1, hb⟩; have HB := hid (HB0.out.trans (hb.mono (by simp))); have c2 := HC.out _ HB.out; clear hb; rcases hs1.get with ⟨rfl, hP⟩ | ⟨rfl, hP⟩; all_goals (have HP := hid hP; clear hP hs1))
        all_goals go_ret
        all_goals exact ⟨says_f HN.out, HB.out⟩
      · have H1 : Hid (st l = 21) := by show _ = _; simpa using e1
        go_enter Tryd.func16, Tryd.ntmps16
        go_wp2_with (go_at_call 36; refine (areKinds_any (some ⟨g, o, none⟩) l c _ _ st sh _ (by omega) HF.out).mono ?_; rintro e w1 ⟨hs1, hb⟩; have HB := hid (HB0.out.trans (hb.mono (by simp))); have c2 := HC.out _ HB.out; clear hb; rcases hs1.get with ⟨rfl, hP⟩ | ⟨rfl, hP⟩; all_goals (have HP := hid hP; clear hP hs1))
        all_goals go_ret
        · exact ⟨says_t (HK.out.2 ⟨h1, by omega, fun i hi => by have := HP.out i (by omega); omega, by simpa using H1.out⟩), HB.out⟩
        · exact ⟨says_f (fun h => HP.out fun i hi => by have := (HK.out.1 h).2.2.1 i (by omega); omega), HB.out⟩
    · have HN : Hid (¬ KidsOk ⟨23, op, ty, n, t, kids⟩ (l + 1) st) := fun h => by have := (HK.out.1 h).2.1; omega
      go_enter Tryd.func16, Tryd.ntmps16
      go_wp2
      go_ret
      exact ⟨says_f HN.out, HB0.out⟩
  · have HN := hid (fun h => h1 (HK.out.1 h).1)
    obtain rfl : m = 0 := by omega
    clear hs
    go_enter Tryd.func16, Tryd.ntmps16
    go_wp2
    go_ret
    exact ⟨says_f HN.out, HB0.out⟩
set_option maxHeartbeats 4000000 in
theorem kf_E (k : Int) (hk : k < 1 ∨ 24 < k) : KF k := by
  intro op ty n kids t ad m c st sh w hm h8 hcm hc hs he
  have HB0 := hid ((Below.refl w.heap.size w).alloc (Nat.le_refl _) (.cells #[.int .i64 k, .int .i64 op, .int .i64 ty, .int .i64 n, .string t, .int .i64 kids] 39))
  have HN := hid (ko_E k op ty n kids t m st hk)
  have hn : ∀ x : Int, 1 ≤ x → x ≤ 24 → (k == x) = false := fun x h1 h2 => by rw [beq_eq_false_iff_ne]; omega
  have n1 := hn 1 (by decide) (by decide)
  have n2 := hn 2 (by decide) (by decide)
  have n3 := hn 3 (by decide) (by decide)
  have n4 := hn 4 (by decide) (by decide)
  have n5 := hn 5 (by decide) (by decide)
  have n6 := hn 6 (by decide) (by decide)
  have n7 := hn 7 (by decide) (by decide)
  have n8 := hn 8 (by decide) (by decide)
  have n9 := hn 9 (by decide) (by decide)
  have n10 := hn 10 (by decide) (by decide)
  have n11 := hn 11 (by decide) (by decide)
  have n12 := hn 12 (by decide) (by decide)
  have n13 := hn 13 (by decide) (by decide)
  have n14 := hn 14 (by decide) (by decide)
  have n15 := hn 15 (by decide) (by decide)
  have n16 := hn 16 (by decide) (by decide)
  have n17 := hn 17 (by decide) (by decide)
  have n18 := hn 18 (by decide) (by decide)
  have n19 := hn 19 (by decide) (by decide)
  have n20 := hn 20 (by decide) (by decide)
  have n21 := hn 21 (by decide) (by decide)
  have n22 := hn 22 (by decide) (by decide)
  have n23 := hn 23 (by decide) (by decide)
  have n24 := hn 24 (by decide) (by decide)
  clear hn
  unfold ndV
  clear hs h8 hk he
  go_enter Tryd.func16, Tryd.ntmps16
  go_wp2
  go_ret
  exact ⟨says_f HN.out, HB0.out⟩
end Go.Proofs.YtjbhadpdbcelcaaDoor.Q
