import Derived.Test.YtjbhadpdbcelcaaDoorQFldU
/-! Printed by gen_fld.py. -/
namespace Go.Proofs.YtjbhadpdbcelcaaDoor.Q
open Go.RowKit Go.Shelf
set_option maxRecDepth 20000
set_option maxHeartbeats 4000000 in
theorem fld_4 : PF 4 := by
  intro op ty n kids t w ht
  unfold ndV
  have HT := hid ht
  clear ht
  go_enter Tryd.func11, Tryd.ntmps11
  go_wp2_with (first
    | (go_at_call 20; refine (uses_4 _).mono ?_; rintro e w' ⟨rfl, rfl⟩)
    | (go_at_call 21; refine (named_4 _).mono ?_; rintro e w' ⟨rfl, rfl⟩)
    | (go_at_call 22; refine (l10NameOk_any t _ HT.out).mono ?_; rintro e w1 ⟨hs, hb⟩; obtain ⟨k0, k1, k2, k3, k4, k5⟩ := six_new hb; have HB1 := hid hb; clear hb; rcases hs.get with ⟨rfl, hp⟩ | ⟨rfl, hp⟩))
  all_goals go_ret
  all_goals refine ⟨⟨_, rfl, ?_⟩, ?_⟩
  all_goals first
    | exact (Below.refl w.heap.size w).alloc (Nat.le_refl _) _
    | exact ((Below.refl w.heap.size w).alloc (Nat.le_refl _) _).trans (Below.mono HB1.out (B' := w.heap.size) (by simp))
    | (rw [plain_4]; simp [*]; done)
    | (rw [plain_4]; simp; omega)
    | (rw [plain_4]; simp [*]; omega)
set_option maxHeartbeats 4000000 in
theorem fld_7 : PF 7 := by
  intro op ty n kids t w ht
  unfold ndV
  have HT := hid ht
  clear ht
  go_enter Tryd.func11, Tryd.ntmps11
  go_wp2_with (first
    | (go_at_call 20; refine (uses_7 _).mono ?_; rintro e w' ⟨rfl, rfl⟩)
    | (go_at_call 21; refine (named_7 _).mono ?_; rintro e w' ⟨rfl, rfl⟩)
    | (go_at_call 22; refine (l10NameOk_any t _ HT.out).mono ?_; rintro e w1 ⟨hs, hb⟩; obtain ⟨k0, k1, k2, k3, k4, k5⟩ := six_new hb; have HB1 := hid hb; clear hb; rcases hs.get with ⟨rfl, hp⟩ | ⟨rfl, hp⟩))
  all_goals go_ret
  all_goals refine ⟨⟨_, rfl, ?_⟩, ?_⟩
  all_goals first
    | exact (Below.refl w.heap.size w).alloc (Nat.le_refl _) _
    | exact ((Below.refl w.heap.size w).alloc (Nat.le_refl _) _).trans (Below.mono HB1.out (B' := w.heap.size) (by simp))
    | (rw [plain_7]; simp [*]; done)
    | (rw [plain_7]; simp; omega)
    | (rw [plain_7]; simp [*]; omega)
set_option maxHeartbeats 4000000 in
theorem fld_10 : PF 10 := by
  intro op ty n kids t w ht
  unfold ndV
  have HT := hid ht
  clear ht
  go_enter Tryd.func11, Tryd.ntmps11
  go_wp2_with (first
    | (go_at_call 20; refine (uses_10 _).mono ?_; rintro e w' ⟨rfl, rfl⟩)
    | (go_at_call 21; refine (named_10 _).mono ?_; rintro e w' ⟨rfl, rfl⟩)
    | (go_at_call 22; refine (l10NameOk_any t _ HT.out).mono ?_; rintro e w1 ⟨hs, hb⟩; obtain ⟨k0, k1, k2, k3, k4, k5⟩ := six_new hb; have HB1 := hid hb; clear hb; rcases hs.get with ⟨rfl, hp⟩ | ⟨rfl, hp⟩))
  all_goals go_ret
  all_goals refine ⟨⟨_, rfl, ?_⟩, ?_⟩
  all_goals first
    | exact (Below.refl w.heap.size w).alloc (Nat.le_refl _) _
    | exact ((Below.refl w.heap.size w).alloc (Nat.le_refl _) _).trans (Below.mono HB1.out (B' := w.heap.size) (by simp))
    | (rw [plain_10]; simp [*]; done)
    | (rw [plain_10]; simp; omega)
    | (rw [plain_10]; simp [*]; omega)
set_option maxHeartbeats 4000000 in
theorem fld_11 : PF 11 := by
  intro op ty n kids t w ht
  unfold ndV
  have HT := hid ht
  clear ht
  go_enter Tryd.func11, Tryd.ntmps11
  go_wp2_with (first
    | (go_at_call 20; refine (uses_11 _).mono ?_; rintro e w' ⟨rfl, rfl⟩)
    | (go_at_call 21; refine (named_11 _).mono ?_; rintro e w' ⟨rfl, rfl⟩)
    | (go_at_call 22; refine (l10NameOk_any t _ HT.out).mono ?_; rintro e w1 ⟨hs, hb⟩; obtain ⟨k0, k1, k2, k3, k4, k5⟩ := six_new hb; have HB1 := hid hb; clear hb; rcases hs.get with ⟨rfl, hp⟩ | ⟨rfl, hp⟩))
  all_goals go_ret
  all_goals refine ⟨⟨_, rfl, ?_⟩, ?_⟩
  all_goals first
    | exact (Below.refl w.heap.size w).alloc (Nat.le_refl _) _
    | exact ((Below.refl w.heap.size w).alloc (Nat.le_refl _) _).trans (Below.mono HB1.out (B' := w.heap.size) (by simp))
    | (rw [plain_11]; simp [*]; done)
    | (rw [plain_11]; simp; omega)
    | (rw [plain_11]; simp [*]; omega)
set_option maxHeartbeats 4000000 in
theorem fld_22 : PF 22 := by
  intro op ty n kids t w ht
  unfold ndV
  have HT := hid ht
  clear ht
  go_enter Tryd.func11, Tryd.ntmps11
  go_wp2_with (first
    | (go_at_call 20; refine (uses_22 _).mono ?_; rintro e w' ⟨rfl, rfl⟩)
    | (go_at_call 21; refine (named_22 _).mono ?_; rintro e w' ⟨rfl, rfl⟩)
    | (go_at_call 22; refine (l10NameOk_any t _ HT.out).mono ?_; rintro e w1 ⟨hs, hb⟩; obtain ⟨k0, k1, k2, k3, k4, k5⟩ := six_new hb; have HB1 := hid hb; clear hb; rcases hs.get with ⟨rfl, hp⟩ | ⟨rfl, hp⟩))
  all_goals go_ret
  all_goals refine ⟨⟨_, rfl, ?_⟩, ?_⟩
  all_goals first
    | exact (Below.refl w.heap.size w).alloc (Nat.le_refl _) _
    | exact ((Below.refl w.heap.size w).alloc (Nat.le_refl _) _).trans (Below.mono HB1.out (B' := w.heap.size) (by simp))
    | (rw [plain_22]; simp [*]; done)
    | (rw [plain_22]; simp; omega)
    | (rw [plain_22]; simp [*]; omega)
set_option maxHeartbeats 4000000 in
theorem fld_23 : PF 23 := by
  intro op ty n kids t w ht
  unfold ndV
  have HT := hid ht
  clear ht
  go_enter Tryd.func11, Tryd.ntmps11
  go_wp2_with (first
    | (go_at_call 20; refine (uses_23 _).mono ?_; rintro e w' ⟨rfl, rfl⟩)
    | (go_at_call 21; refine (named_23 _).mono ?_; rintro e w' ⟨rfl, rfl⟩)
    | (go_at_call 22; refine (l10NameOk_any t _ HT.out).mono ?_; rintro e w1 ⟨hs, hb⟩; obtain ⟨k0, k1, k2, k3, k4, k5⟩ := six_new hb; have HB1 := hid hb; clear hb; rcases hs.get with ⟨rfl, hp⟩ | ⟨rfl, hp⟩))
  all_goals go_ret
  all_goals refine ⟨⟨_, rfl, ?_⟩, ?_⟩
  all_goals first
    | exact (Below.refl w.heap.size w).alloc (Nat.le_refl _) _
    | exact ((Below.refl w.heap.size w).alloc (Nat.le_refl _) _).trans (Below.mono HB1.out (B' := w.heap.size) (by simp))
    | (rw [plain_23]; simp [*]; done)
    | (rw [plain_23]; simp; omega)
    | (rw [plain_23]; simp [*]; omega)
end Go.Proofs.YtjbhadpdbcelcaaDoor.Q
