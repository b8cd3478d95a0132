import Derived.Test.YtkngjbpbjjoneaaGreatDoorJ19
/-! Printed by gen_fit.py. -/
namespace Go.Proofs.YtkngjbpbjjoneaaGreatDoor.Q
open Go.RowKit Go.Shelf
set_option maxRecDepth 20000
set_option maxHeartbeats 4000000 in
theorem kf_13 : KF 13 := by
  intro op ty n kids t ad m c st sh w hm h8 hcm hc hs he
  have HB0 := hid ((Below.refl w.heap.size w).alloc (Nat.le_refl _) (.cells #[.int .i64 13, .int .i64 op, .int .i64 ty, .int .i64 n, .string t, .int .i64 kids] 63))
  have HS := hid (hs.below HB0.out)
  have HK := hid (ko_13 op ty n kids t m st)
  unfold ndV
  clear he h8
  by_cases h2 : m = 2
  · subst h2
    obtain ⟨g, o, rfl, hg, hst⟩ : ∃ g o, ad = some ⟨g, o, none⟩ ∧ g < w.heap.size ∧ StandAt w g o 2 st sh := by
      rcases hs with h | h
      · omega
      · exact h
    have HS2 := hid (hst.below HB0.out hg)
    clear hst hs HS
    go_enter Tryz.func28, Tryz.ntmps28
    go_wp2_with (go_at_call 52; refine (askFits_any g o _ st sh _ (by omega) (by simp; omega) HS2.out).mono ?_; rintro e w1 ⟨hs1, hb⟩; have HB := hid (HB0.out.trans (hb.mono (by simp))); clear hb; rcases hs1.get with ⟨rfl, hP⟩ | ⟨rfl, hP⟩; all_goals (have HP := hid hP; clear hP hs1))
    all_goals go_ret
    · exact ⟨says_t (HK.out.2 ⟨by simp, HP.out⟩), HB.out⟩
    · exact ⟨says_f (fun h => HP.out (HK.out.1 h).2), HB.out⟩
  · have hq : ((m : Int) == 2) = false := by rw [beq_eq_false_iff_ne]; omega
    have HN := hid (fun h => h2 (HK.out.1 h).1)
    clear h2 hs
    go_enter Tryz.func28, Tryz.ntmps28
    go_wp2
    go_ret
    exact ⟨says_f HN.out, HB0.out⟩
set_option maxHeartbeats 4000000 in
theorem kf_12 : KF 12 := by
  intro op ty n kids t ad m c st sh w hm h8 hcm hc hs he
  have HB0 := hid ((Below.refl w.heap.size w).alloc (Nat.le_refl _) (.cells #[.int .i64 12, .int .i64 op, .int .i64 ty, .int .i64 n, .string t, .int .i64 kids] 63))
  have HS := hid (hs.below HB0.out)
  have HK := hid (ko_12 op ty n kids t m st)
  unfold ndV
  clear he h8
  by_cases h2 : m = 2
  · subst h2
    obtain ⟨g, o, rfl, hg, hst⟩ : ∃ g o, ad = some ⟨g, o, none⟩ ∧ g < w.heap.size ∧ StandAt w g o 2 st sh := by
      rcases hs with h | h
      · omega
      · exact h
    have HS2 := hid (hst.below HB0.out hg)
    clear hst hs HS
    go_enter Tryz.func28, Tryz.ntmps28
    go_wp2_with (go_at_call 52; refine (askFits_any g o _ st sh _ (by omega) (by simp; omega) HS2.out).mono ?_; rintro e w1 ⟨hs1, hb⟩; have HB := hid (HB0.out.trans (hb.mono (by simp))); clear hb; rcases hs1.get with ⟨rfl, hP⟩ | ⟨rfl, hP⟩; all_goals (have HP := hid hP; clear hP hs1))
    all_goals go_ret
    · exact ⟨says_t (HK.out.2 ⟨by simp, HP.out.1, HP.out.2, fun h => by omega⟩), HB.out⟩
    · exact ⟨says_f (fun h => HP.out ⟨(HK.out.1 h).2.1, (HK.out.1 h).2.2.1⟩), HB.out⟩
  · have hq2 : ((m : Int) == 2) = false := by rw [beq_eq_false_iff_ne]; omega
    by_cases h3 : m = 3
    · subst h3
      obtain ⟨g, o, rfl, hg, hst⟩ : ∃ g o, ad = some ⟨g, o, none⟩ ∧ g < w.heap.size ∧ StandAt w g o 3 st sh := by
        rcases hs with h | h
        · omega
        · exact h
      have HS2 := hid ((hst.front (f := 2) (by omega)).below HB0.out hg)
      have HC : Hid (∀ W, Below w.heap.size w W → W.cell? ⟨g, o + 4, none⟩ = some (.int .i64 (st 2))) := fun W hb => (hb.cell (p := ⟨g, o + 4, none⟩) hg).trans (hst 2 (by omega)).1
      clear hst hs HS
      by_cases h4 : st 2 = 21
      · have e4 : (st 2 == 21) = true := by rw [h4]; rfl
        have H4 := hid h4
        clear h4
        go_enter Tryz.func28, Tryz.ntmps28
        go_wp2_with (go_at_call 52; refine (askFits_any g o _ st sh _ (by omega) (by simp; omega) HS2.out).mono ?_; rintro e w1 ⟨hs1, hb⟩; have HB := hid (HB0.out.trans (hb.mono (by simp))); have c2 := HC.out _ HB.out; clear hb; rcases hs1.get with ⟨rfl, hP⟩ | ⟨rfl, hP⟩; all_goals (have HP := hid hP; clear hP hs1))
        all_goals go_ret
        · exact ⟨says_t (HK.out.2 ⟨by simp, HP.out.1, HP.out.2, fun _ => .inl H4.out⟩), HB.out⟩
        · exact ⟨says_f (fun h => HP.out ⟨(HK.out.1 h).2.1, (HK.out.1 h).2.2.1⟩), HB.out⟩
      · have e4 : (st 2 == 21) = false := by rw [beq_eq_false_iff_ne]; exact h4
        by_cases h5 : st 2 = 12
        · have e5 : (st 2 == 12) = true := by rw [h5]; rfl
          have H5 := hid h5
          clear h4 h5
          go_enter Tryz.func28, Tryz.ntmps28
          go_wp2_with (go_at_call 52; refine (askFits_any g o _ st sh _ (by omega) (by simp; omega) HS2.out).mono ?_; rintro e w1 ⟨hs1, hb⟩; have HB := hid (HB0.out.trans (hb.mono (by simp))); have c2 := HC.out _ HB.out; clear hb; rcases hs1.get with ⟨rfl, hP⟩ | ⟨rfl, hP⟩; all_goals (have HP := hid hP; clear hP hs1))
          all_goals go_ret
          · exact ⟨says_t (HK.out.2 ⟨by simp, HP.out.1, HP.out.2, fun _ => .inr H5.out⟩), HB.out⟩
          · exact ⟨says_f (fun h => HP.out ⟨(HK.out.1 h).2.1, (HK.out.1 h).2.2.1⟩), HB.out⟩
        · have e5 : (st 2 == 12) = false := by rw [beq_eq_false_iff_ne]; exact h5
          have HN : Hid (¬ KidsOk ⟨12, op, ty, n, t, kids⟩ 3 st) := fun h => by
            rcases (HK.out.1 h).2.2.2 rfl with h' | h'
            · exact h4 h'
            · exact h5 h'
          clear h4 h5
          go_enter Tryz.func28, Tryz.ntmps28
          go_wp2_with (go_at_call 52; refine (askFits_any g o _ st sh _ (by omega) (by simp; omega) HS2.out).mono ?_; rintro e w1 ⟨hs1, hb⟩; have HB := hid (HB0.out.trans (hb.mono (by simp))); have c2 := HC.out _ HB.out; clear hb; rcases hs1.get with ⟨rfl, hP⟩ | ⟨rfl, hP⟩; all_goals (have HP := hid hP; clear hP hs1))
          all_goals go_ret
          all_goals exact ⟨says_f HN.out, HB.out⟩
    · have hq3 : ((m : Int) == 3) = false := by rw [beq_eq_false_iff_ne]; omega
      have HN : Hid (¬ KidsOk ⟨12, op, ty, n, t, kids⟩ m st) := fun h => by
        rcases (HK.out.1 h).1 with h' | h'
        · exact h2 h'
        · exact h3 h'
      clear h2 h3 hs
      go_enter Tryz.func28, Tryz.ntmps28
      go_wp2
      go_ret
      exact ⟨says_f HN.out, HB0.out⟩
set_option maxHeartbeats 4000000 in
theorem kf_20 : KF 20 := by
  intro op ty n kids t ad m c st sh w hm h8 hcm hc hs he
  have HB0 := hid ((Below.refl w.heap.size w).alloc (Nat.le_refl _) (.cells #[.int .i64 20, .int .i64 op, .int .i64 ty, .int .i64 n, .string t, .int .i64 kids] 63))
  have HS := hid (hs.below HB0.out)
  have HK := hid (ko_20 op ty n kids t m st)
  unfold ndV
  clear he h8
  by_cases h1 : m = 1
  · subst h1
    obtain ⟨g, o, rfl, hg, hst⟩ : ∃ g o, ad = some ⟨g, o, none⟩ ∧ g < w.heap.size ∧ StandAt w g o 1 st sh := by
      rcases hs with h | h
      · omega
      · exact h
    have c0 : (w.alloc (.cells #[.int .i64 20, .int .i64 op, .int .i64 ty, .int .i64 n, .string t, .int .i64 kids] 63)).cell? ⟨g, o, none⟩ = some (.int .i64 (st 0)) := by have := ((hst.below HB0.out hg) 0 (by omega)).1; simpa using this
    clear hst hs HS
    by_cases h4 : st 0 = 7
    · have e4 : (st 0 == 7) = true := by rw [h4]; rfl
      have HY := hid (HK.out.2 ⟨by simp, h4⟩)
      clear h4
      go_enter Tryz.func28, Tryz.ntmps28
      go_wp2
      go_ret
      exact ⟨says_t HY.out, HB0.out⟩
    · have e4 : (st 0 == 7) = false := by rw [beq_eq_false_iff_ne]; exact h4
      have HN := hid (fun h => h4 (HK.out.1 h).2)
      clear h4
      go_enter Tryz.func28, Tryz.ntmps28
      go_wp2
      go_ret
      exact ⟨says_f HN.out, HB0.out⟩
  · have hq : ((m : Int) == 1) = false := by rw [beq_eq_false_iff_ne]; omega
    have HN := hid (fun h => h1 (HK.out.1 h).1)
    clear h1 hs
    go_enter Tryz.func28, Tryz.ntmps28
    go_wp2
    go_ret
    exact ⟨says_f HN.out, HB0.out⟩
end Go.Proofs.YtkngjbpbjjoneaaGreatDoor.Q
/-! Printed by gen_fit.py. -/
namespace Go.Proofs.YtkngjbpbjjoneaaGreatDoor.Q
open Go.RowKit Go.Shelf
set_option maxRecDepth 20000
set_option maxHeartbeats 4000000 in
theorem kf_21 : KF 21 := by
  intro op ty n kids t ad m c st sh w hm h8 hcm hc hs he
  have HB0 := hid ((Below.refl w.heap.size w).alloc (Nat.le_refl _) (.cells #[.int .i64 21, .int .i64 op, .int .i64 ty, .int .i64 n, .string t, .int .i64 kids] 63))
  have HS := hid (hs.below HB0.out)
  have HK := hid (ko_21 op ty n kids t m st)
  unfold ndV
  clear hs he h8
  go_enter Tryz.func28, Tryz.ntmps28
  go_wp2_with (go_at_call 53; refine (areKinds_any ad m c _ _ st sh _ hm HS.out).mono ?_; rintro e w1 ⟨hs, hb⟩; have HB := hid (HB0.out.trans (hb.mono (by simp))); obtain ⟨b, rfl, hP⟩ := hs; have HP := hid hP; clear hb hP)
  go_ret
  exact ⟨⟨_, rfl, HP.out.trans HK.out.symm⟩, HB.out⟩
set_option maxHeartbeats 4000000 in
theorem kf_24 : KF 24 := by
  intro op ty n kids t ad m c st sh w hm h8 hcm hc hs he
  have HB0 := hid ((Below.refl w.heap.size w).alloc (Nat.le_refl _) (.cells #[.int .i64 24, .int .i64 op, .int .i64 ty, .int .i64 n, .string t, .int .i64 kids] 63))
  have HS := hid (hs.below HB0.out)
  have HK := hid (ko_24 op ty n kids t m st)
  unfold ndV
  clear hs he h8
  by_cases h1 : 1 ≤ m
  · by_cases h9 : m ≤ 60
    · have h1' : (1 : Int) ≤ m := by omega
      have h9' : (m : Int) ≤ 60 := by omega
      go_enter Tryz.func28, Tryz.ntmps28
      go_wp2_with (go_at_call 53; refine (areKinds_any ad m c _ _ st sh _ hm HS.out).mono ?_; rintro e w1 ⟨hs, hb⟩; have HB := hid (HB0.out.trans (hb.mono (by simp))); obtain ⟨b, rfl, hP⟩ := hs; have HP := hid hP; clear hb hP)
      go_ret
      refine ⟨⟨_, rfl, HP.out.trans ?_⟩, HB.out⟩
      rw [HK.out]
      constructor
      · intro h; exact ⟨h1, h9, fun i hi => by have := h i hi; omega⟩
      · intro h i hi; have := h.2.2 i hi; omega
    · have h1' : (1 : Int) ≤ m := by omega
      have h9' : ¬ (m : Int) ≤ 60 := by omega
      have HN := hid (fun h => h9 (HK.out.1 h).2.1)
      go_enter Tryz.func28, Tryz.ntmps28
      go_wp2
      go_ret
      exact ⟨says_f HN.out, HB0.out⟩
  · have h1' : ¬ (1 : Int) ≤ m := by omega
    have HN := hid (fun h => h1 (HK.out.1 h).1)
    go_enter Tryz.func28, Tryz.ntmps28
    go_wp2
    go_ret
    exact ⟨says_f HN.out, HB0.out⟩
set_option maxHeartbeats 4000000 in
theorem kf_23 : KF 23 := by
  intro op ty n kids t ad m c st sh w hm h8 hcm hc hs he
  have HB0 := hid ((Below.refl w.heap.size w).alloc (Nat.le_refl _) (.cells #[.int .i64 23, .int .i64 op, .int .i64 ty, .int .i64 n, .string t, .int .i64 kids] 63))
  have HS := hid (hs.below HB0.out)
  have HK := hid (ko_23 op ty n kids t m st)
  unfold ndV
  clear he h8
  by_cases h1 : 1 ≤ m
  · obtain ⟨l, rfl⟩ : ∃ l, m = l + 1 := ⟨m - 1, by omega⟩
    obtain ⟨g, o, rfl, hg, hst⟩ : ∃ g o, ad = some ⟨g, o, none⟩ ∧ g < w.heap.size ∧ StandAt w g o (l + 1) st sh := by
      rcases hs with h | h
      · omega
      · exact h
    have HF := hid ((show StA w (some ⟨g, o, none⟩) l st sh from .inr ⟨g, o, rfl, hg, hst.front (by omega)⟩).below HB0.out)
    have HC : Hid (∀ W, Below w.heap.size w W → W.cell? ⟨g, o + l * 2, none⟩ = some (.int .i64 (st l))) := fun W hb => (hb.cell (p := ⟨g, o + l * 2, none⟩) hg).trans (hst l (by omega)).1
    clear hst hs HS
    by_cases h8 : l ≤ 8
    · cases e1 : (st l == 21)
      · have HN : Hid (¬ KidsOk ⟨23, op, ty, n, t, kids⟩ (l + 1) st) := fun h => by
          have := (HK.out.1 h).2.2.2
          simp only [Nat.add_sub_cancel] at this
          rw [this] at e1; cases e1
        go_enter Tryz.func28, Tryz.ntmps28
        go_wp2_with (go_at_call 53; refine (areKinds_any (some ⟨g, o, none⟩) l c _ _ st sh _ (by omega) HF.out).mono ?_; rintro e w1 ⟨hs1, hb⟩; have HB := hid (HB0.out.trans (hb.mono (by simp))); have c2 := HC.out _ HB.out; clear hb; rcases hs1.get with ⟨rfl, hP⟩ | ⟨rfl, hP⟩; all_goals (have HP := hid hP; clear hP hs1))
        all_goals go_ret
        all_goals exact ⟨says_f HN.out, HB.out⟩
      · have H1 : Hid (st l = 21) := by show _ = _; simpa using e1
        go_enter Tryz.func28, Tryz.ntmps28
        go_wp2_with (go_at_call 53; refine (areKinds_any (some ⟨g, o, none⟩) l c _ _ st sh _ (by omega) HF.out).mono ?_; rintro e w1 ⟨hs1, hb⟩; have HB := hid (HB0.out.trans (hb.mono (by simp))); have c2 := HC.out _ HB.out; clear hb; rcases hs1.get with ⟨rfl, hP⟩ | ⟨rfl, hP⟩; all_goals (have HP := hid hP; clear hP hs1))
        all_goals go_ret
        · exact ⟨says_t (HK.out.2 ⟨h1, by omega, fun i hi => by have := HP.out i (by omega); omega, by simpa using H1.out⟩), HB.out⟩
        · exact ⟨says_f (fun h => HP.out fun i hi => by have := (HK.out.1 h).2.2.1 i (by omega); omega), HB.out⟩
    · have HN : Hid (¬ KidsOk ⟨23, op, ty, n, t, kids⟩ (l + 1) st) := fun h => by have := (HK.out.1 h).2.1; omega
      go_enter Tryz.func28, Tryz.ntmps28
      go_wp2
      go_ret
      exact ⟨says_f HN.out, HB0.out⟩
  · have HN := hid (fun h => h1 (HK.out.1 h).1)
    obtain rfl : m = 0 := by omega
    clear hs
    go_enter Tryz.func28, Tryz.ntmps28
    go_wp2
    go_ret
    exact ⟨says_f HN.out, HB0.out⟩
set_option maxHeartbeats 4000000 in
theorem kf_E (k : Int) (hk : k < 1 ∨ 24 < k) : KF k := by
  intro op ty n kids t ad m c st sh w hm h8 hcm hc hs he
  have HB0 := hid ((Below.refl w.heap.size w).alloc (Nat.le_refl _) (.cells #[.int .i64 k, .int .i64 op, .int .i64 ty, .int .i64 n, .string t, .int .i64 kids] 63))
  have HN := hid (ko_E k op ty n kids t m st hk)
  have hn : ∀ x : Int, 1 ≤ x → x ≤ 24 → (k == x) = false := fun x h1 h2 => by rw [beq_eq_false_iff_ne]; omega
  have n1 := hn 1 (by decide) (by decide)
  have n2 := hn 2 (by decide) (by decide)
  have n3 := hn 3 (by decide) (by decide)
  have n4 := hn 4 (by decide) (by decide)
  have n5 := hn 5 (by decide) (by decide)
  have n6 := hn 6 (by decide) (by decide)
  have n7 := hn 7 (by decide) (by decide)
  have n8 := hn 8 (by decide) (by decide)
  have n9 := hn 9 (by decide) (by decide)
  have n10 := hn 10 (by decide) (by decide)
  have n11 := hn 11 (by decide) (by decide)
  have n12 := hn 12 (by decide) (by decide)
  have n13 := hn 13 (by decide) (by decide)
  have n14 := hn 14 (by decide) (by decide)
  have n15 := hn 15 (by decide) (by decide)
  have n16 := hn 16 (by decide) (by decide)
  have n17 := hn 17 (by decide) (by decide)
  have n18 := hn 18 (by decide) (by decide)
  have n19 := hn 19 (by decide) (by decide)
  have n20 := hn 20 (by decide) (by decide)
  have n21 := hn 21 (by decide) (by decide)
  have n22 := hn 22 (by decide) (by decide)
  have n23 := hn 23 (by decide) (by decide)
  have n24 := hn 24 (by decide) (by decide)
  clear hn
  unfold ndV
  clear hs h8 hk he
  go_enter Tryz.func28, Tryz.ntmps28
  go_wp2
  go_ret
  exact ⟨says_f HN.out, HB0.out⟩
end Go.Proofs.YtkngjbpbjjoneaaGreatDoor.Q
namespace Go.Proofs.YtkngjbpbjjoneaaGreatDoor.Q
open Go.RowKit Go.Shelf
set_option maxRecDepth 20000
set_option maxHeartbeats 1000000 in
theorem szNodeS_none (ad : Option Addr) (cap : Nat) (w : World) :
    Calls Tryz.prog 9 #[.slice ad 0 cap, .int .i64 1048576] w fun e w' => e = .returned (.int .i64 1048576) ∧ w' = w := by
  go_enter Tryz.func9, Tryz.ntmps9
  go_wp2
  go_loopw [1, 5] (fun l i wr => i = .int .i64 0 ∧ l = .int .i64 1048576 ∧ wr = w) (fun _ _ _ => 0)
  case atStart => exact ⟨rfl, rfl, rfl⟩
  case round =>
    obtain ⟨rfl, rfl, rfl⟩ := hrel
    go_wp2
    go_ret
    exact ⟨rfl, rfl⟩
set_option maxHeartbeats 1000000 in
theorem toNodeS_none (ad : Option Addr) (cap : Nat) (nd : Nat → Nd) (w : World) :
    Calls Tryz.prog 13 #[.slice ad 0 cap] w fun e w' => e = .returned (.slice (some ⟨w.heap.size, 0, none⟩) 0 0) ∧ NodesAt w' w.heap.size 0 nd ∧ w.heap.size < w'.heap.size ∧ Below w.heap.size w w' := by
  obtain ⟨i0, hi, hz0, hz1, hz2⟩ := info_parts info_nd
  have HHI := hid (And.intro hi (And.intro hz0 hz1))
  clear hi hz0 hz1
  go_enter Tryz.func13, Tryz.ntmps13
  go_wp2_with (at_make; refine wpList_make_full _ rfl _ _ 27 rfl w.heap.size 63 i0 (.agg #[.int .i64 0, .int .i64 0, .int .i64 0, .int .i64 0, .string ⟨#[]⟩, .int .i64 0]) 6 Tryz.underlying27 HHI.out.1 HHI.out.2.1 HHI.out.2.2 _ _ _ _ 0 rfl rfl rfl rfl (by omega) (by unfold maxLen; omega) (Nat.le_refl _) ?_; intro w1 o1 g1)
  have hsz : w.heap.size < w1.heap.size := by
    obtain ⟨h1, ⟨h2, _⟩ | ⟨g, c, cur, e, _, h4, _, _, h7, _⟩⟩ := o1
    · cases h2
    · cases e
      exact (Array.getElem?_eq_some_iff.1 h4).1
  have HB0 := hid ((Below.refl w.heap.size w).grown g1 (Nat.le_refl _) (fun q e => by cases e))
  clear o1 g1
  go_loopw [4] (fun i wr => i = .int .i64 0 ∧ wr = w1) (fun _ _ => 0)
  case atStart => exact ⟨rfl, rfl⟩
  case round =>
    obtain ⟨rfl, rfl⟩ := hrel
    go_wp2
    go_ret
    exact ⟨rfl, fun i h => absurd h (Nat.not_lt_zero _), hsz, HB0.out⟩
theorem szNodeS_all (ad : Option Addr) (N cap : Nat) (nd : Nat → Nd) (w : World) (hN : N ≤ maxLen) (hn : NodesA w ad N nd) (ht : ∀ i, i < N → (nd i).text.size ≤ maxLen) :
    Calls Tryz.prog 9 #[.slice ad N cap, .int .i64 1048576] w fun e w' => (∃ r, e = .returned (.int .i64 r) ∧ -1 ≤ r ∧ r ≤ 1048576 ∧ (0 ≤ r → N ≤ 1048576 ∧ ∀ i, i < N → (nd i).text.size ≤ 1048576)) ∧ Below w.heap.size w w' := by
  rcases hn with rfl | ⟨a, rfl, h1, h2⟩
  · refine (szNodeS_none ad cap w).mono ?_
    rintro e w' ⟨rfl, rfl⟩
    exact ⟨⟨_, rfl, by omega, by omega, fun _ => ⟨by omega, fun i h => absurd h (Nat.not_lt_zero _)⟩⟩, Below.refl _ _⟩
  · exact szNodeS_any a N cap nd w hN h1 h2 ht
theorem toNodeS_all (ad : Option Addr) (N cap : Nat) (nd : Nat → Nd) (w : World) (hN : N ≤ 1048576) (hn : NodesA w ad N nd) :
    Calls Tryz.prog 13 #[.slice ad N cap] w fun e w' => e = .returned (.slice (some ⟨w.heap.size, 0, none⟩) N N) ∧ NodesAt w' w.heap.size N nd ∧ w.heap.size < w'.heap.size ∧ Below w.heap.size w w' := by
  rcases hn with rfl | ⟨a, rfl, h1, h2⟩
  · exact toNodeS_none ad cap nd w
  · exact toNodeS_any a N cap nd w hN h1 h2
set_option maxHeartbeats 1000000 in
theorem szTree_any (ad : Option Addr) (N cap : Nat) (nd : Nat → Nd) (w : World) (hN : N ≤ maxLen) (hn : NodesA w ad N nd) (ht : ∀ i, i < N → (nd i).text.size ≤ maxLen) :
    Calls Tryz.prog 4 #[.agg #[.slice ad N cap], .int .i64 1048576] w fun e w' => (∃ r, e = .returned (.int .i64 r) ∧ (0 ≤ r → N ≤ 1048576 ∧ ∀ i, i < N → (nd i).text.size ≤ 1048576)) ∧ Below w.heap.size w w' := by
  have HB := hid ((Below.refl w.heap.size w).alloc (Nat.le_refl _) (.cells #[.slice ad N cap] 24))
  have HN := hid (hn.below HB.out)
  have HT := hid ht
  clear hn ht
  go_enter Tryz.func4, Tryz.ntmps4
  go_wp2_with (go_at_call 9; refine (szNodeS_all ad N cap nd _ hN HN.out HT.out).mono ?_; rintro e w1 ⟨⟨r, rfl, h1, h2, h3⟩, hb1⟩; have H3 := hid h3; have HB1 := hid (HB.out.trans (hb1.mono (by simp))); clear h3 hb1)
  · go_ret
    exact ⟨⟨_, rfl, fun h => by omega⟩, HB1.out⟩
  · go_ret
    exact ⟨⟨_, rfl, H3.out⟩, HB1.out⟩
theorem three_rows {w w1 : World} {X : Obj} {u v : Value} {t : TypeId} (h : Below (((w.alloc X).alloc (.cells #[u] t)).alloc (.cells #[v] t)).heap.size (((w.alloc X).alloc (.cells #[u] t)).alloc (.cells #[v] t)) w1) :
    (w1.cell? ⟨w.heap.size + 1, 0, none⟩ = some u ∧ w1.frozen? ⟨w.heap.size + 1, 0, none⟩ = false) ∧ (w1.cell? ⟨w.heap.size + 1 + 1, 0, none⟩ = some v ∧ w1.frozen? ⟨w.heap.size + 1 + 1, 0, none⟩ = false) := by
  have e2 : w1.heap[w.heap.size + 1 + 1]? = some (.cells #[v] t) := by
    rw [h.block _ (by simp)]
    have := heap_alloc_new ((w.alloc X).alloc (.cells #[u] t)) (.cells #[v] t)
    rwa [World.size_alloc, World.size_alloc] at this
  have e1 : w1.heap[w.heap.size + 1]? = some (.cells #[u] t) := by
    rw [h.block _ (by simp), Below.heap_alloc _ _ _ (by simp)]
    have := heap_alloc_new (w.alloc X) (.cells #[u] t)
    rwa [World.size_alloc] at this
  refine ⟨⟨?_, ?_⟩, ?_, ?_⟩
  · unfold World.cell?; rw [e1]; rfl
  · unfold World.frozen?; rw [e1]; rfl
  · unfold World.cell?; rw [e2]; rfl
  · unfold World.frozen?; rw [e2]; rfl
theorem NodesAt.set {W : World} {g N b : Nat} {nd : Nat → Nd} (h : NodesAt W g N nd) (hb : b ≠ g) (v : Value) : NodesAt (W.setCell ⟨b, 0, none⟩ v) g N nd := by
  intro i hi
  obtain ⟨c0, c1, c2, c3, c4, c5⟩ := h i hi
  have k : ∀ j, (W.setCell ⟨b, 0, none⟩ v).cell? ⟨g, j, none⟩ = W.cell? ⟨g, j, none⟩ := fun j => by
    unfold World.cell? World.setCell
    simp only [Array.getElem?_modify]
    rw [if_neg hb]
  exact ⟨(k _).trans c0, (k _).trans c1, (k _).trans c2, (k _).trans c3, (k _).trans c4, (k _).trans c5⟩
set_option maxHeartbeats 1000000 in
theorem toTree_any (ad : Option Addr) (N cap : Nat) (nd : Nat → Nd) (w : World) (hN : N ≤ 1048576) (hn : NodesA w ad N nd) :
    Calls Tryz.prog 6 #[.agg #[.slice ad N cap]] w fun e w' => ∃ g, e = .returned (.agg #[.slice (some ⟨g, 0, none⟩) N N]) ∧ NodesAt w' g N nd ∧ g < w'.heap.size ∧ w.heap.size ≤ g ∧ Below w.heap.size w w' := by
  have HB := hid ((Below.refl w.heap.size w).alloc (Nat.le_refl _) (.cells #[.slice ad N cap] 24))
  have HN := hid hn
  clear hn
  go_enter Tryz.func6, Tryz.ntmps6
  go_wp2_with fail
  have HB3 := hid (((HB.out.alloc (by simp) (.cells #[.slice none 0 0] 29))).alloc (by simp; omega) (.cells #[.slice none 0 0] 29))
  refine (toNodeS_all ad N cap nd _ hN (HN.out.below HB3.out)).mono ?_
  rintro e w1 ⟨rfl, hno, hlt, hb1⟩
  obtain ⟨⟨x1, y1⟩, ⟨x2, y2⟩⟩ := three_rows hb1
  have HNO := hid hno
  have HLT := hid hlt
  have HB1 := hid (HB3.out.trans (hb1.mono (by simp; omega)))
  clear hno hlt hb1
  go_wp2
  refine bodyPost_ret (v := .agg #[.slice (some ⟨w.heap.size + 1 + 1 + 1, 0, none⟩) N N]) (by simp [results, Tryz.results6, go_sem, x1]) rfl ⟨w.heap.size + 1 + 1 + 1, rfl, ?_, ?_, by omega, ?_⟩
  · have h3 := HNO.out
    simp only [World.size_alloc] at h3
    exact (h3.set (by omega) _).set (by omega) _
  · have := HLT.out
    simp only [World.size_alloc] at this
    simpa using this
  · exact below_set (below_set HB1.out _ _ (by omega) _) _ _ (by omega) _
set_option maxHeartbeats 1000000 in
theorem eqTree_same (g1 g2 N : Nat) (nd : Nat → Nd) (w : World) (hN : N ≤ 1048576) (hl1 : g1 < w.heap.size) (hl2 : g2 < w.heap.size) (h1 : NodesAt w g1 N nd) (h2 : NodesAt w g2 N nd) :
    Calls Tryz.prog 8 #[.agg #[.slice (some ⟨g1, 0, none⟩) N N], .agg #[.slice (some ⟨g2, 0, none⟩) N N]] w fun e w' => e = .returned (.bool true) ∧ Below w.heap.size w w' := by
  have HB := hid (below_two' w (.cells #[.slice (some ⟨g1, 0, none⟩) N N] 29) (.cells #[.slice (some ⟨g2, 0, none⟩) N N] 29))
  have H1 := hid (h1.below HB.out hl1)
  have H2 := hid (h2.below HB.out hl2)
  clear h1 h2
  go_enter Tryz.func8, Tryz.ntmps8
  go_wp2_with (go_at_call 19; refine (eqNodeS_same g1 g2 N nd _ hN (by simp; omega) (by simp; omega) H1.out H2.out).mono ?_; rintro e w1 ⟨rfl, hb1⟩; have HB1 := hid (HB.out.trans (hb1.mono (by simp; omega))); clear hb1)
  go_ret
  exact ⟨rfl, HB1.out⟩
end Go.Proofs.YtkngjbpbjjoneaaGreatDoor.Q
