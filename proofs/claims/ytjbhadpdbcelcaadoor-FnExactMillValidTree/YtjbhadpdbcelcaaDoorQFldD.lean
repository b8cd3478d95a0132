import Derived.Test.YtjbhadpdbcelcaaDoorQFldU
/-! Printed by gen_fld.py. -/
namespace Go.Proofs.YtjbhadpdbcelcaaDoor.Q
open Go.RowKit Go.Shelf
set_option maxRecDepth 20000
set_option maxHeartbeats 4000000 in
theorem fld_E (k : Int) (hk : k < 1 ∨ 24 < k) : PF k := by
  intro op ty n kids t w ht
  have hn : ∀ x : Int, 1 ≤ x → x ≤ 24 → (k == x) = false := fun x h1 h2 => by rw [beq_eq_false_iff_ne]; omega
  have n1 := hn 1 (by decide) (by decide)
  have n2 := hn 2 (by decide) (by decide)
  have n3 := hn 3 (by decide) (by decide)
  have n4 := hn 4 (by decide) (by decide)
  have n5 := hn 5 (by decide) (by decide)
  have n6 := hn 6 (by decide) (by decide)
  have n7 := hn 7 (by decide) (by decide)
  have n8 := hn 8 (by decide) (by decide)
  have n9 := hn 9 (by decide) (by decide)
  have n10 := hn 10 (by decide) (by decide)
  have n11 := hn 11 (by decide) (by decide)
  have n12 := hn 12 (by decide) (by decide)
  have n13 := hn 13 (by decide) (by decide)
  have n14 := hn 14 (by decide) (by decide)
  have n15 := hn 15 (by decide) (by decide)
  have n16 := hn 16 (by decide) (by decide)
  have n17 := hn 17 (by decide) (by decide)
  have n18 := hn 18 (by decide) (by decide)
  have n19 := hn 19 (by decide) (by decide)
  have n20 := hn 20 (by decide) (by decide)
  have n21 := hn 21 (by decide) (by decide)
  have n22 := hn 22 (by decide) (by decide)
  have n23 := hn 23 (by decide) (by decide)
  have n24 := hn 24 (by decide) (by decide)
  clear hn
  have HPL := hid (plain_E k op ty n kids t hk)
  have HU := hid (uses_E k hk)
  have HNM := hid (named_E k hk)
  clear hk
  unfold ndV
  have HT := hid ht
  clear ht
  cases hx : t.toList.isEmpty
  all_goals go_enter Tryd.func11, Tryd.ntmps11
  all_goals go_wp2_with (first
    | (go_at_call 20; refine (HU.out _).mono ?_; rintro e w' ⟨rfl, rfl⟩)
    | (go_at_call 21; refine (HNM.out _).mono ?_; rintro e w' ⟨rfl, rfl⟩)
    | (go_at_call 22; refine (l10NameOk_any t _ HT.out).mono ?_; rintro e w1 ⟨hs, hb⟩; obtain ⟨k0, k1, k2, k3, k4, k5⟩ := six_new hb; have HB1 := hid hb; clear hb; rcases hs.get with ⟨rfl, hp⟩ | ⟨rfl, hp⟩))
  all_goals go_ret
  all_goals refine ⟨⟨_, rfl, ?_⟩, ?_⟩
  all_goals first
    | exact (Below.refl w.heap.size w).alloc (Nat.le_refl _) _
    | (rw [HPL.out]; simp [*]; done)
    | (rw [HPL.out]; simp; omega)
    | (rw [HPL.out]; simp [*]; omega)
set_option maxHeartbeats 4000000 in
theorem fld_1 : PF 1 := by
  intro op ty n kids t w ht
  unfold ndV
  have HP0 := hid (plain_1 op ty n kids t)
  clear ht
  by_cases ho : op = 0
  · subst ho
    cases hx : t.toList.isEmpty
    · have HN : Hid (¬ PlainNd ⟨1, 0, ty, n, t, kids⟩) := fun h => by
        have := (HP0.out.1 h).2.1
        rw [hx] at this; cases this
      go_enter Tryd.func11, Tryd.ntmps11
      go_wp2_with (go_at_call 20; refine (uses_1 _).mono ?_; rintro e w' ⟨rfl, rfl⟩)
      go_ret
      exact ⟨says_f HN.out, (Below.refl w.heap.size w).alloc (Nat.le_refl _) _⟩
    · by_cases hT : 3 ≤ ty ∧ ty ≤ 10
      · obtain ⟨T, rfl⟩ := Int.eq_ofNat_of_zero_le (show 0 ≤ ty by omega)
        have h3 : 3 ≤ T := by omega
        have h10 : T ≤ 10 := by omega
        have HI : Hid (∀ W, Calls Tryd.prog 23 #[.int .i64 T] W fun e w' => e = .returned (.bool true) ∧ w' = W) := fun W => (l10Integer_int T W).mono fun e w' ⟨h1, h2⟩ => ⟨by rw [h1]; exact ret_bool (by simp; omega), h2⟩
        rw [num_T T h3 h10 n, hx] at HP0
        clear hT
        go_enter Tryd.func11, Tryd.ntmps11
        go_wp2_with (first
          | (go_at_call 20; refine (uses_1 _).mono ?_; rintro e w' ⟨rfl, rfl⟩)
          | (go_at_call 21; refine (named_1 _).mono ?_; rintro e w' ⟨rfl, rfl⟩))
        go_quiet (first | (go_at_call 23; exact Calls.quiet_of_same (HI.out _)) | (go_at_call 24; exact Calls.quiet_of_same (l10Max_any T h3 h10 _)))
        all_goals go_wp2
        all_goals go_ret
        all_goals refine ⟨⟨_, rfl, ?_⟩, below_drewN ((Below.refl w.heap.size w).alloc (Nat.le_refl _) _) nq⟩
        all_goals rw [HP0.out]
        all_goals simp
      · have HI : Hid (∀ W, Calls Tryd.prog 23 #[.int .i64 ty] W fun e w' => e = .returned (.bool false) ∧ w' = W) := fun W => (l10Integer_int ty W).mono fun e w' ⟨h1, h2⟩ => ⟨by rw [h1]; exact ret_bool (by simp; omega), h2⟩
        have HN : Hid (¬ PlainNd ⟨1, 0, ty, n, t, kids⟩) := fun h => by
          obtain ⟨_, _, T, e, h3, h10, _⟩ := HP0.out.1 h
          omega
        clear hT
        go_enter Tryd.func11, Tryd.ntmps11
        go_wp2_with (first
          | (go_at_call 20; refine (uses_1 _).mono ?_; rintro e w' ⟨rfl, rfl⟩)
          | (go_at_call 21; refine (named_1 _).mono ?_; rintro e w' ⟨rfl, rfl⟩))
        go_quiet (first | (go_at_call 23; exact Calls.quiet_of_same (HI.out _)))
        all_goals go_wp2
        all_goals go_ret
        all_goals exact ⟨says_f HN.out, below_drewN ((Below.refl w.heap.size w).alloc (Nat.le_refl _) _) nq⟩
  · have HN : Hid (¬ PlainNd ⟨1, op, ty, n, t, kids⟩) := fun h => ho (HP0.out.1 h).1
    have hne : (op != 0) = true := by rw [bne_iff_ne]; exact ho
    clear ho
    go_enter Tryd.func11, Tryd.ntmps11
    go_wp2_with (go_at_call 20; refine (uses_1 _).mono ?_; rintro e w' ⟨rfl, rfl⟩)
    all_goals go_ret
    all_goals exact ⟨says_f HN.out, (Below.refl w.heap.size w).alloc (Nat.le_refl _) _⟩
end Go.Proofs.YtjbhadpdbcelcaaDoor.Q
