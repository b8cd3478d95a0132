import Derived.Test.YtjbhadpdbcelcaaDoorQFldU
/-! Printed by gen_fld.py. -/
namespace Go.Proofs.YtjbhadpdbcelcaaDoor.Q
open Go.RowKit Go.Shelf
set_option maxRecDepth 20000
set_option maxHeartbeats 4000000 in
theorem fld_2 : PF 2 := by
  intro op ty n kids t w ht
  unfold ndV
  have HT := hid ht
  clear ht
  go_enter Tryd.func11, Tryd.ntmps11
  go_wp2_with (first
    | (go_at_call 20; refine (uses_2 _).mono ?_; rintro e w' ⟨rfl, rfl⟩)
    | (go_at_call 21; refine (named_2 _).mono ?_; rintro e w' ⟨rfl, rfl⟩)
    | (go_at_call 22; refine (l10NameOk_any t _ HT.out).mono ?_; rintro e w1 ⟨hs, hb⟩; obtain ⟨k0, k1, k2, k3, k4, k5⟩ := six_new hb; have HB1 := hid hb; clear hb; rcases hs.get with ⟨rfl, hp⟩ | ⟨rfl, hp⟩))
  all_goals go_ret
  all_goals refine ⟨⟨_, rfl, ?_⟩, ?_⟩
  all_goals first
    | exact (Below.refl w.heap.size w).alloc (Nat.le_refl _) _
    | (rw [plain_2]; simp [*]; done)
    | (rw [plain_2]; simp; omega)
    | (rw [plain_2]; simp [*]; omega)
set_option maxHeartbeats 4000000 in
theorem fld_3 : PF 3 := by
  intro op ty n kids t w ht
  unfold ndV
  have HT := hid ht
  clear ht
  cases hx : t.toList.isEmpty
  all_goals go_enter Tryd.func11, Tryd.ntmps11
  all_goals go_wp2_with (first
    | (go_at_call 20; refine (uses_3 _).mono ?_; rintro e w' ⟨rfl, rfl⟩)
    | (go_at_call 21; refine (named_3 _).mono ?_; rintro e w' ⟨rfl, rfl⟩)
    | (go_at_call 22; refine (l10NameOk_any t _ HT.out).mono ?_; rintro e w1 ⟨hs, hb⟩; obtain ⟨k0, k1, k2, k3, k4, k5⟩ := six_new hb; have HB1 := hid hb; clear hb; rcases hs.get with ⟨rfl, hp⟩ | ⟨rfl, hp⟩))
  all_goals go_ret
  all_goals refine ⟨⟨_, rfl, ?_⟩, ?_⟩
  all_goals first
    | exact (Below.refl w.heap.size w).alloc (Nat.le_refl _) _
    | (rw [plain_3]; simp [*]; done)
    | (rw [plain_3]; simp; omega)
    | (rw [plain_3]; simp [*]; omega)
set_option maxHeartbeats 4000000 in
theorem fld_5 : PF 5 := by
  intro op ty n kids t w ht
  unfold ndV
  have HT := hid ht
  clear ht
  cases hx : t.toList.isEmpty
  all_goals go_enter Tryd.func11, Tryd.ntmps11
  all_goals go_wp2_with (first
    | (go_at_call 20; refine (uses_5 _).mono ?_; rintro e w' ⟨rfl, rfl⟩)
    | (go_at_call 21; refine (named_5 _).mono ?_; rintro e w' ⟨rfl, rfl⟩)
    | (go_at_call 22; refine (l10NameOk_any t _ HT.out).mono ?_; rintro e w1 ⟨hs, hb⟩; obtain ⟨k0, k1, k2, k3, k4, k5⟩ := six_new hb; have HB1 := hid hb; clear hb; rcases hs.get with ⟨rfl, hp⟩ | ⟨rfl, hp⟩))
  all_goals go_ret
  all_goals refine ⟨⟨_, rfl, ?_⟩, ?_⟩
  all_goals first
    | exact (Below.refl w.heap.size w).alloc (Nat.le_refl _) _
    | (rw [plain_5]; simp [*]; done)
    | (rw [plain_5]; simp; omega)
    | (rw [plain_5]; simp [*]; omega)
set_option maxHeartbeats 4000000 in
theorem fld_6 : PF 6 := by
  intro op ty n kids t w ht
  unfold ndV
  have HT := hid ht
  clear ht
  cases hx : t.toList.isEmpty
  all_goals go_enter Tryd.func11, Tryd.ntmps11
  all_goals go_wp2_with (first
    | (go_at_call 20; refine (uses_6 _).mono ?_; rintro e w' ⟨rfl, rfl⟩)
    | (go_at_call 21; refine (named_6 _).mono ?_; rintro e w' ⟨rfl, rfl⟩)
    | (go_at_call 22; refine (l10NameOk_any t _ HT.out).mono ?_; rintro e w1 ⟨hs, hb⟩; obtain ⟨k0, k1, k2, k3, k4, k5⟩ := six_new hb; have HB1 := hid hb; clear hb; rcases hs.get with ⟨rfl, hp⟩ | ⟨rfl, hp⟩))
  all_goals go_ret
  all_goals refine ⟨⟨_, rfl, ?_⟩, ?_⟩
  all_goals first
    | exact (Below.refl w.heap.size w).alloc (Nat.le_refl _) _
    | (rw [plain_6]; simp [*]; done)
    | (rw [plain_6]; simp; omega)
    | (rw [plain_6]; simp [*]; omega)
set_option maxHeartbeats 4000000 in
theorem fld_8 : PF 8 := by
  intro op ty n kids t w ht
  unfold ndV
  have HT := hid ht
  clear ht
  cases hx : t.toList.isEmpty
  all_goals go_enter Tryd.func11, Tryd.ntmps11
  all_goals go_wp2_with (first
    | (go_at_call 20; refine (uses_8 _).mono ?_; rintro e w' ⟨rfl, rfl⟩)
    | (go_at_call 21; refine (named_8 _).mono ?_; rintro e w' ⟨rfl, rfl⟩)
    | (go_at_call 22; refine (l10NameOk_any t _ HT.out).mono ?_; rintro e w1 ⟨hs, hb⟩; obtain ⟨k0, k1, k2, k3, k4, k5⟩ := six_new hb; have HB1 := hid hb; clear hb; rcases hs.get with ⟨rfl, hp⟩ | ⟨rfl, hp⟩))
  all_goals go_ret
  all_goals refine ⟨⟨_, rfl, ?_⟩, ?_⟩
  all_goals first
    | exact (Below.refl w.heap.size w).alloc (Nat.le_refl _) _
    | (rw [plain_8]; simp [*]; done)
    | (rw [plain_8]; simp; omega)
    | (rw [plain_8]; simp [*]; omega)
set_option maxHeartbeats 4000000 in
theorem fld_9 : PF 9 := by
  intro op ty n kids t w ht
  unfold ndV
  have HT := hid ht
  clear ht
  cases hx : t.toList.isEmpty
  all_goals go_enter Tryd.func11, Tryd.ntmps11
  all_goals go_wp2_with (first
    | (go_at_call 20; refine (uses_9 _).mono ?_; rintro e w' ⟨rfl, rfl⟩)
    | (go_at_call 21; refine (named_9 _).mono ?_; rintro e w' ⟨rfl, rfl⟩)
    | (go_at_call 23; refine (l10Integer_int ty _).mono ?_; rintro e w' ⟨rfl, rfl⟩)
    | (go_at_call 22; refine (l10NameOk_any t _ HT.out).mono ?_; rintro e w1 ⟨hs, hb⟩; obtain ⟨k0, k1, k2, k3, k4, k5⟩ := six_new hb; have HB1 := hid hb; clear hb; rcases hs.get with ⟨rfl, hp⟩ | ⟨rfl, hp⟩))
  all_goals go_ret
  all_goals refine ⟨⟨_, rfl, ?_⟩, ?_⟩
  all_goals first
    | exact (Below.refl w.heap.size w).alloc (Nat.le_refl _) _
    | (rw [plain_9]; simp [*]; done)
    | (rw [plain_9]; simp; omega)
    | (rw [plain_9]; simp [*]; omega)
end Go.Proofs.YtjbhadpdbcelcaaDoor.Q
