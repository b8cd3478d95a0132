import Derived.Test.YtjbhadpdbcelcaaDoorQKfU
/-! Printed by gen_fit.py. -/
namespace Go.Proofs.YtjbhadpdbcelcaaDoor.Q
open Go.RowKit Go.Shelf
set_option maxRecDepth 20000
set_option maxHeartbeats 4000000 in
theorem kf_13 : KF 13 := by
  intro op ty n kids t ad m c st sh w hm h8 hcm hc hs he
  have HB0 := hid ((Below.refl w.heap.size w).alloc (Nat.le_refl _) (.cells #[.int .i64 13, .int .i64 op, .int .i64 ty, .int .i64 n, .string t, .int .i64 kids] 39))
  have HS := hid (hs.below HB0.out)
  have HK := hid (ko_13 op ty n kids t m st)
  unfold ndV
  clear he h8
  by_cases h2 : m = 2
  · subst h2
    obtain ⟨g, o, rfl, hg, hst⟩ : ∃ g o, ad = some ⟨g, o, none⟩ ∧ g < w.heap.size ∧ StandAt w g o 2 st sh := by
      rcases hs with h | h
      · omega
      · exact h
    have HS2 := hid (hst.below HB0.out hg)
    clear hst hs HS
    go_enter Tryd.func16, Tryd.ntmps16
    go_wp2_with (go_at_call 35; refine (askFits_any g o _ st sh _ (by omega) (by simp; omega) HS2.out).mono ?_; rintro e w1 ⟨hs1, hb⟩; have HB := hid (HB0.out.trans (hb.mono (by simp))); clear hb; rcases hs1.get with ⟨rfl, hP⟩ | ⟨rfl, hP⟩; all_goals (have HP := hid hP; clear hP hs1))
    all_goals go_ret
    · exact ⟨says_t (HK.out.2 ⟨by simp, HP.out⟩), HB.out⟩
    · exact ⟨says_f (fun h => HP.out (HK.out.1 h).2), HB.out⟩
  · have hq : ((m : Int) == 2) = false := by rw [beq_eq_false_iff_ne]; omega
    have HN := hid (fun h => h2 (HK.out.1 h).1)
    clear h2 hs
    go_enter Tryd.func16, Tryd.ntmps16
    go_wp2
    go_ret
    exact ⟨says_f HN.out, HB0.out⟩
set_option maxHeartbeats 4000000 in
theorem kf_12 : KF 12 := by
  intro op ty n kids t ad m c st sh w hm h8 hcm hc hs he
  have HB0 := hid ((Below.refl w.heap.size w).alloc (Nat.le_refl _) (.cells #[.int .i64 12, .int .i64 op, .int .i64 ty, .int .i64 n, .string t, .int .i64 kids] 39))
  have HS := hid (hs.below HB0.out)
  have HK := hid (ko_12 op ty n kids t m st)
  unfold ndV
  clear he h8
  by_cases h2 : m = 2
  · subst h2
    obtain ⟨g, o, rfl, hg, hst⟩ : ∃ g o, ad = some ⟨g, o, none⟩ ∧ g < w.heap.size ∧ StandAt w g o 2 st sh := by
      rcases hs with h | h
      · omega
      · exact h
    have HS2 := hid (hst.below HB0.out hg)
    clear hst hs HS
    go_enter Tryd.func16, Tryd.ntmps16
    go_wp2_with (go_at_call 35; refine (askFits_any g o _ st sh _ (by omega) (by simp; omega) HS2.out).mono ?_; rintro e w1 ⟨hs1, hb⟩; have HB := hid (HB0.out.trans (hb.mono (by simp))); clear hb; rcases hs1.get with ⟨rfl, hP⟩ | ⟨rfl, hP⟩; all_goals (have HP := hid hP; clear hP hs1))
    all_goals go_ret
    · exact ⟨says_t (HK.out.2 ⟨by simp, HP.out.1, HP.out.2, fun h => by omega⟩), HB.out⟩
    · exact ⟨says_f (fun h => HP.out ⟨(HK.out.1 h).2.1, (HK.out.1 h).2.2.1⟩), HB.out⟩
  · have hq2 : ((m : Int) == 2) = false := by rw [beq_eq_false_iff_ne]; omega
    by_cases h3 : m = 3
    · subst h3
      obtain ⟨g, o, rfl, hg, hst⟩ : ∃ g o, ad = some ⟨g, o, none⟩ ∧ g < w.heap.size ∧ StandAt w g o 3 st sh := by
        rcases hs with h | h
        · omega
        · exact h
      have HS2 := hid ((hst.front (f := 2) (by omega)).below HB0.out hg)
      have HC : Hid (∀ W, Below w.heap.size w W → W.cell? ⟨g, o + 4, none⟩ = some (.int .i64 (st 2))) := fun W hb => (hb.cell (p := ⟨g, o + 4, none⟩) hg).trans (hst 2 (by omega)).1
      clear hst hs HS
      by_cases h4 : st 2 = 21
      · have e4 : (st 2 == 21) = true := by rw [h4]; rfl
        have H4 := hid h4
        clear h4
        go_enter Tryd.func16, Tryd.ntmps16
        go_wp2_with (go_at_call 35; refine (askFits_any g o _ st sh _ (by omega) (by simp; omega) HS2.out).mono ?_; rintro e w1 ⟨hs1, hb⟩; have HB := hid (HB0.out.trans (hb.mono (by simp))); have c2 := HC.out _ HB.out; clear hb; rcases hs1.get with ⟨rfl, hP⟩ | ⟨rfl, hP⟩; all_goals (have HP := hid hP; clear hP hs1))
        all_goals go_ret
        · exact ⟨says_t (HK.out.2 ⟨by simp, HP.out.1, HP.out.2, fun _ => .inl H4.out⟩), HB.out⟩
        · exact ⟨says_f (fun h => HP.out ⟨(HK.out.1 h).2.1, (HK.out.1 h).2.2.1⟩), HB.out⟩
      · have e4 : (st 2 == 21) = false := by rw [beq_eq_false_iff_ne]; exact h4
        by_cases h5 : st 2 = 12
        · have e5 : (st 2 == 12) = true := by rw [h5]; rfl
          have H5 := hid h5
          clear h4 h5
          go_enter Tryd.func16, Tryd.ntmps16
          go_wp2_with (go_at_call 35; refine (askFits_any g o _ st sh _ (by omega) (by simp; omega) HS2.out).mono ?_; rintro e w1 ⟨hs1, hb⟩; have HB := hid (HB0.out.trans (hb.mono (by simp))); have c2 := HC.out _ HB.out; clear hb; rcases hs1.get with ⟨rfl, hP⟩ | ⟨rfl, hP⟩; all_goals (have HP := hid hP; clear hP hs1))
          all_goals go_ret
          · exact ⟨says_t (HK.out.2 ⟨by simp, HP.out.1, HP.out.2, fun _ => .inr H5.out⟩), HB.out⟩
          · exact ⟨says_f (fun h => HP.out ⟨(HK.out.1 h).2.1, (HK.out.1 h).2.2.1⟩), HB.out⟩
        · have e5 : (st 2 == 12) = false := by rw [beq_eq_false_iff_ne]; exact h5
          have HN : Hid (¬ KidsOk ⟨12, op, ty, n, t, kids⟩ 3 st) := fun h => by
            rcases (HK.out.1 h).2.2.2 rfl with h' | h'
            · exact h4 h'
            · exact h5 h'
          clear h4 h5
          go_enter Tryd.func16, Tryd.ntmps16
          go_wp2_with (go_at_call 35; refine (askFits_any g o _ st sh _ (by omega) (by simp; omega) HS2.out).mono ?_; rintro e w1 ⟨hs1, hb⟩; have HB := hid (HB0.out.trans (hb.mono (by simp))); have c2 := HC.out _ HB.out; clear hb; rcases hs1.get with ⟨rfl, hP⟩ | ⟨rfl, hP⟩; all_goals (have HP := hid hP; clear hP hs1))
          all_goals go_ret
          all_goals exact ⟨says_f HN.out, HB.out⟩
    · have hq3 : ((m : Int) == 3) = false := by rw [beq_eq_false_iff_ne]; omega
      have HN : Hid (¬ KidsOk ⟨12, op, ty, n, t, kids⟩ m st) := fun h => by
        rcases (HK.out.1 h).1 with h' | h'
        · exact h2 h'
        · exact h3 h'
      clear h2 h3 hs
      go_enter Tryd.func16, Tryd.ntmps16
      go_wp2
      go_ret
      exact ⟨says_f HN.out, HB0.out⟩
set_option maxHeartbeats 4000000 in
theorem kf_20 : KF 20 := by
  intro op ty n kids t ad m c st sh w hm h8 hcm hc hs he
  have HB0 := hid ((Below.refl w.heap.size w).alloc (Nat.le_refl _) (.cells #[.int .i64 20, .int .i64 op, .int .i64 ty, .int .i64 n, .string t, .int .i64 kids] 39))
  have HS := hid (hs.below HB0.out)
  have HK := hid (ko_20 op ty n kids t m st)
  unfold ndV
  clear he h8
  by_cases h1 : m = 1
  · subst h1
    obtain ⟨g, o, rfl, hg, hst⟩ : ∃ g o, ad = some ⟨g, o, none⟩ ∧ g < w.heap.size ∧ StandAt w g o 1 st sh := by
      rcases hs with h | h
      · omega
      · exact h
    have c0 : (w.alloc (.cells #[.int .i64 20, .int .i64 op, .int .i64 ty, .int .i64 n, .string t, .int .i64 kids] 39)).cell? ⟨g, o, none⟩ = some (.int .i64 (st 0)) := by have := ((hst.below HB0.out hg) 0 (by omega)).1; simpa using this
    clear hst hs HS
    by_cases h4 : st 0 = 7
    · have e4 : (st 0 == 7) = true := by rw [h4]; rfl
      have HY := hid (HK.out.2 ⟨by simp, h4⟩)
      clear h4
      go_enter Tryd.func16, Tryd.ntmps16
      go_wp2
      go_ret
      exact ⟨says_t HY.out, HB0.out⟩
    · have e4 : (st 0 == 7) = false := by rw [beq_eq_false_iff_ne]; exact h4
      have HN := hid (fun h => h4 (HK.out.1 h).2)
      clear h4
      go_enter Tryd.func16, Tryd.ntmps16
      go_wp2
      go_ret
      exact ⟨says_f HN.out, HB0.out⟩
  · have hq : ((m : Int) == 1) = false := by rw [beq_eq_false_iff_ne]; omega
    have HN := hid (fun h => h1 (HK.out.1 h).1)
    clear h1 hs
    go_enter Tryd.func16, Tryd.ntmps16
    go_wp2
    go_ret
    exact ⟨says_f HN.out, HB0.out⟩
end Go.Proofs.YtjbhadpdbcelcaaDoor.Q
