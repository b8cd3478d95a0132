import Derived.Test.YtjbhadpdbcelcaaDoorQFldU
/-! Printed by gen_fld.py. -/
namespace Go.Proofs.YtjbhadpdbcelcaaDoor.Q
open Go.RowKit Go.Shelf
set_option maxRecDepth 20000
set_option maxHeartbeats 4000000 in
theorem fld_12 : PF 12 := by
  intro op ty n kids t w ht
  unfold ndV
  have HT := hid ht
  clear ht
  cases hx : t.toList.isEmpty
  all_goals go_enter Tryd.func11, Tryd.ntmps11
  all_goals go_wp2_with (first
    | (go_at_call 20; refine (uses_12 _).mono ?_; rintro e w' ⟨rfl, rfl⟩)
    | (go_at_call 21; refine (named_12 _).mono ?_; rintro e w' ⟨rfl, rfl⟩)
    | (go_at_call 22; refine (l10NameOk_any t _ HT.out).mono ?_; rintro e w1 ⟨hs, hb⟩; obtain ⟨k0, k1, k2, k3, k4, k5⟩ := six_new hb; have HB1 := hid hb; clear hb; rcases hs.get with ⟨rfl, hp⟩ | ⟨rfl, hp⟩))
  all_goals go_ret
  all_goals refine ⟨⟨_, rfl, ?_⟩, ?_⟩
  all_goals first
    | exact (Below.refl w.heap.size w).alloc (Nat.le_refl _) _
    | (rw [plain_12]; simp [*]; done)
    | (rw [plain_12]; simp; omega)
    | (rw [plain_12]; simp [*]; omega)
set_option maxHeartbeats 4000000 in
theorem fld_13 : PF 13 := by
  intro op ty n kids t w ht
  unfold ndV
  have HT := hid ht
  clear ht
  cases hx : t.toList.isEmpty
  all_goals go_enter Tryd.func11, Tryd.ntmps11
  all_goals go_wp2_with (first
    | (go_at_call 20; refine (uses_13 _).mono ?_; rintro e w' ⟨rfl, rfl⟩)
    | (go_at_call 21; refine (named_13 _).mono ?_; rintro e w' ⟨rfl, rfl⟩)
    | (go_at_call 22; refine (l10NameOk_any t _ HT.out).mono ?_; rintro e w1 ⟨hs, hb⟩; obtain ⟨k0, k1, k2, k3, k4, k5⟩ := six_new hb; have HB1 := hid hb; clear hb; rcases hs.get with ⟨rfl, hp⟩ | ⟨rfl, hp⟩))
  all_goals go_ret
  all_goals refine ⟨⟨_, rfl, ?_⟩, ?_⟩
  all_goals first
    | exact (Below.refl w.heap.size w).alloc (Nat.le_refl _) _
    | (rw [plain_13]; simp [*]; done)
    | (rw [plain_13]; simp; omega)
    | (rw [plain_13]; simp [*]; omega)
set_option maxHeartbeats 4000000 in
theorem fld_14 : PF 14 := by
  intro op ty n kids t w ht
  unfold ndV
  have HT := hid ht
  clear ht
  cases hx : t.toList.isEmpty
  all_goals go_enter Tryd.func11, Tryd.ntmps11
  all_goals go_wp2_with (first
    | (go_at_call 20; refine (uses_14 _).mono ?_; rintro e w' ⟨rfl, rfl⟩)
    | (go_at_call 21; refine (named_14 _).mono ?_; rintro e w' ⟨rfl, rfl⟩)
    | (go_at_call 22; refine (l10NameOk_any t _ HT.out).mono ?_; rintro e w1 ⟨hs, hb⟩; obtain ⟨k0, k1, k2, k3, k4, k5⟩ := six_new hb; have HB1 := hid hb; clear hb; rcases hs.get with ⟨rfl, hp⟩ | ⟨rfl, hp⟩))
  all_goals go_ret
  all_goals refine ⟨⟨_, rfl, ?_⟩, ?_⟩
  all_goals first
    | exact (Below.refl w.heap.size w).alloc (Nat.le_refl _) _
    | (rw [plain_14]; simp [*]; done)
    | (rw [plain_14]; simp; omega)
    | (rw [plain_14]; simp [*]; omega)
set_option maxHeartbeats 4000000 in
theorem fld_15 : PF 15 := by
  intro op ty n kids t w ht
  unfold ndV
  have HT := hid ht
  clear ht
  cases hx : t.toList.isEmpty
  all_goals go_enter Tryd.func11, Tryd.ntmps11
  all_goals go_wp2_with (first
    | (go_at_call 20; refine (uses_15 _).mono ?_; rintro e w' ⟨rfl, rfl⟩)
    | (go_at_call 21; refine (named_15 _).mono ?_; rintro e w' ⟨rfl, rfl⟩)
    | (go_at_call 22; refine (l10NameOk_any t _ HT.out).mono ?_; rintro e w1 ⟨hs, hb⟩; obtain ⟨k0, k1, k2, k3, k4, k5⟩ := six_new hb; have HB1 := hid hb; clear hb; rcases hs.get with ⟨rfl, hp⟩ | ⟨rfl, hp⟩))
  all_goals go_ret
  all_goals refine ⟨⟨_, rfl, ?_⟩, ?_⟩
  all_goals first
    | exact (Below.refl w.heap.size w).alloc (Nat.le_refl _) _
    | (rw [plain_15]; simp [*]; done)
    | (rw [plain_15]; simp; omega)
    | (rw [plain_15]; simp [*]; omega)
set_option maxHeartbeats 4000000 in
theorem fld_16 : PF 16 := by
  intro op ty n kids t w ht
  unfold ndV
  have HT := hid ht
  clear ht
  cases hx : t.toList.isEmpty
  all_goals go_enter Tryd.func11, Tryd.ntmps11
  all_goals go_wp2_with (first
    | (go_at_call 20; refine (uses_16 _).mono ?_; rintro e w' ⟨rfl, rfl⟩)
    | (go_at_call 21; refine (named_16 _).mono ?_; rintro e w' ⟨rfl, rfl⟩)
    | (go_at_call 22; refine (l10NameOk_any t _ HT.out).mono ?_; rintro e w1 ⟨hs, hb⟩; obtain ⟨k0, k1, k2, k3, k4, k5⟩ := six_new hb; have HB1 := hid hb; clear hb; rcases hs.get with ⟨rfl, hp⟩ | ⟨rfl, hp⟩))
  all_goals go_ret
  all_goals refine ⟨⟨_, rfl, ?_⟩, ?_⟩
  all_goals first
    | exact (Below.refl w.heap.size w).alloc (Nat.le_refl _) _
    | (rw [plain_16]; simp [*]; done)
    | (rw [plain_16]; simp; omega)
    | (rw [plain_16]; simp [*]; omega)
set_option maxHeartbeats 4000000 in
theorem fld_17 : PF 17 := by
  intro op ty n kids t w ht
  unfold ndV
  have HT := hid ht
  clear ht
  cases hx : t.toList.isEmpty
  all_goals go_enter Tryd.func11, Tryd.ntmps11
  all_goals go_wp2_with (first
    | (go_at_call 20; refine (uses_17 _).mono ?_; rintro e w' ⟨rfl, rfl⟩)
    | (go_at_call 21; refine (named_17 _).mono ?_; rintro e w' ⟨rfl, rfl⟩)
    | (go_at_call 22; refine (l10NameOk_any t _ HT.out).mono ?_; rintro e w1 ⟨hs, hb⟩; obtain ⟨k0, k1, k2, k3, k4, k5⟩ := six_new hb; have HB1 := hid hb; clear hb; rcases hs.get with ⟨rfl, hp⟩ | ⟨rfl, hp⟩))
  all_goals go_ret
  all_goals refine ⟨⟨_, rfl, ?_⟩, ?_⟩
  all_goals first
    | exact (Below.refl w.heap.size w).alloc (Nat.le_refl _) _
    | (rw [plain_17]; simp [*]; done)
    | (rw [plain_17]; simp; omega)
    | (rw [plain_17]; simp [*]; omega)
set_option maxHeartbeats 4000000 in
theorem fld_18 : PF 18 := by
  intro op ty n kids t w ht
  unfold ndV
  have HT := hid ht
  clear ht
  cases hx : t.toList.isEmpty
  all_goals go_enter Tryd.func11, Tryd.ntmps11
  all_goals go_wp2_with (first
    | (go_at_call 20; refine (uses_18 _).mono ?_; rintro e w' ⟨rfl, rfl⟩)
    | (go_at_call 21; refine (named_18 _).mono ?_; rintro e w' ⟨rfl, rfl⟩)
    | (go_at_call 22; refine (l10NameOk_any t _ HT.out).mono ?_; rintro e w1 ⟨hs, hb⟩; obtain ⟨k0, k1, k2, k3, k4, k5⟩ := six_new hb; have HB1 := hid hb; clear hb; rcases hs.get with ⟨rfl, hp⟩ | ⟨rfl, hp⟩))
  all_goals go_ret
  all_goals refine ⟨⟨_, rfl, ?_⟩, ?_⟩
  all_goals first
    | exact (Below.refl w.heap.size w).alloc (Nat.le_refl _) _
    | (rw [plain_18]; simp [*]; done)
    | (rw [plain_18]; simp; omega)
    | (rw [plain_18]; simp [*]; omega)
set_option maxHeartbeats 4000000 in
theorem fld_19 : PF 19 := by
  intro op ty n kids t w ht
  unfold ndV
  have HT := hid ht
  clear ht
  cases hx : t.toList.isEmpty
  all_goals go_enter Tryd.func11, Tryd.ntmps11
  all_goals go_wp2_with (first
    | (go_at_call 20; refine (uses_19 _).mono ?_; rintro e w' ⟨rfl, rfl⟩)
    | (go_at_call 21; refine (named_19 _).mono ?_; rintro e w' ⟨rfl, rfl⟩)
    | (go_at_call 22; refine (l10NameOk_any t _ HT.out).mono ?_; rintro e w1 ⟨hs, hb⟩; obtain ⟨k0, k1, k2, k3, k4, k5⟩ := six_new hb; have HB1 := hid hb; clear hb; rcases hs.get with ⟨rfl, hp⟩ | ⟨rfl, hp⟩))
  all_goals go_ret
  all_goals refine ⟨⟨_, rfl, ?_⟩, ?_⟩
  all_goals first
    | exact (Below.refl w.heap.size w).alloc (Nat.le_refl _) _
    | (rw [plain_19]; simp [*]; done)
    | (rw [plain_19]; simp; omega)
    | (rw [plain_19]; simp [*]; omega)
set_option maxHeartbeats 4000000 in
theorem fld_20 : PF 20 := by
  intro op ty n kids t w ht
  unfold ndV
  have HT := hid ht
  clear ht
  cases hx : t.toList.isEmpty
  all_goals go_enter Tryd.func11, Tryd.ntmps11
  all_goals go_wp2_with (first
    | (go_at_call 20; refine (uses_20 _).mono ?_; rintro e w' ⟨rfl, rfl⟩)
    | (go_at_call 21; refine (named_20 _).mono ?_; rintro e w' ⟨rfl, rfl⟩)
    | (go_at_call 22; refine (l10NameOk_any t _ HT.out).mono ?_; rintro e w1 ⟨hs, hb⟩; obtain ⟨k0, k1, k2, k3, k4, k5⟩ := six_new hb; have HB1 := hid hb; clear hb; rcases hs.get with ⟨rfl, hp⟩ | ⟨rfl, hp⟩))
  all_goals go_ret
  all_goals refine ⟨⟨_, rfl, ?_⟩, ?_⟩
  all_goals first
    | exact (Below.refl w.heap.size w).alloc (Nat.le_refl _) _
    | (rw [plain_20]; simp [*]; done)
    | (rw [plain_20]; simp; omega)
    | (rw [plain_20]; simp [*]; omega)
set_option maxHeartbeats 4000000 in
theorem fld_21 : PF 21 := by
  intro op ty n kids t w ht
  unfold ndV
  have HT := hid ht
  clear ht
  cases hx : t.toList.isEmpty
  all_goals go_enter Tryd.func11, Tryd.ntmps11
  all_goals go_wp2_with (first
    | (go_at_call 20; refine (uses_21 _).mono ?_; rintro e w' ⟨rfl, rfl⟩)
    | (go_at_call 21; refine (named_21 _).mono ?_; rintro e w' ⟨rfl, rfl⟩)
    | (go_at_call 22; refine (l10NameOk_any t _ HT.out).mono ?_; rintro e w1 ⟨hs, hb⟩; obtain ⟨k0, k1, k2, k3, k4, k5⟩ := six_new hb; have HB1 := hid hb; clear hb; rcases hs.get with ⟨rfl, hp⟩ | ⟨rfl, hp⟩))
  all_goals go_ret
  all_goals refine ⟨⟨_, rfl, ?_⟩, ?_⟩
  all_goals first
    | exact (Below.refl w.heap.size w).alloc (Nat.le_refl _) _
    | (rw [plain_21]; simp [*]; done)
    | (rw [plain_21]; simp; omega)
    | (rw [plain_21]; simp [*]; omega)
set_option maxHeartbeats 4000000 in
theorem fld_24 : PF 24 := by
  intro op ty n kids t w ht
  unfold ndV
  have HT := hid ht
  clear ht
  cases hx : t.toList.isEmpty
  all_goals go_enter Tryd.func11, Tryd.ntmps11
  all_goals go_wp2_with (first
    | (go_at_call 20; refine (uses_24 _).mono ?_; rintro e w' ⟨rfl, rfl⟩)
    | (go_at_call 21; refine (named_24 _).mono ?_; rintro e w' ⟨rfl, rfl⟩)
    | (go_at_call 22; refine (l10NameOk_any t _ HT.out).mono ?_; rintro e w1 ⟨hs, hb⟩; obtain ⟨k0, k1, k2, k3, k4, k5⟩ := six_new hb; have HB1 := hid hb; clear hb; rcases hs.get with ⟨rfl, hp⟩ | ⟨rfl, hp⟩))
  all_goals go_ret
  all_goals refine ⟨⟨_, rfl, ?_⟩, ?_⟩
  all_goals first
    | exact (Below.refl w.heap.size w).alloc (Nat.le_refl _) _
    | (rw [plain_24]; simp [*]; done)
    | (rw [plain_24]; simp; omega)
    | (rw [plain_24]; simp [*]; omega)
end Go.Proofs.YtjbhadpdbcelcaaDoor.Q
