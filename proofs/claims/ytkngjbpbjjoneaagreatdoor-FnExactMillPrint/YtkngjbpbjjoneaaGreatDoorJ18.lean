import Derived.Test.YtkngjbpbjjoneaaGreatDoorJ11
/-! Printed by gen_fld.py. -/
namespace Go.Proofs.YtkngjbpbjjoneaaGreatDoor.Q
open Go.RowKit Go.Shelf
set_option maxRecDepth 20000
set_option maxHeartbeats 4000000 in
theorem fld_12 : PF 12 := by
  intro op ty n kids t w ht
  unfold ndV
  have HT := hid ht
  clear ht
  cases hx : t.toList.isEmpty
  all_goals go_enter Tryz.func21, Tryz.ntmps21
  all_goals go_wp2_with (first
    | (go_at_call 37; refine (uses_12 _).mono ?_; rintro e w' ⟨rfl, rfl⟩)
    | (go_at_call 38; refine (named_12 _).mono ?_; rintro e w' ⟨rfl, rfl⟩)
    | (go_at_call 39; refine (l10NameOk_any t _ HT.out).mono ?_; rintro e w1 ⟨hs, hb⟩; obtain ⟨k0, k1, k2, k3, k4, k5⟩ := six_new hb; have HB1 := hid hb; clear hb; rcases hs.get with ⟨rfl, hp⟩ | ⟨rfl, hp⟩))
  all_goals go_ret
  all_goals refine ⟨⟨_, rfl, ?_⟩, ?_⟩
  all_goals first
    | exact (Below.refl w.heap.size w).alloc (Nat.le_refl _) _
    | (rw [plain_12]; simp [*]; done)
    | (rw [plain_12]; simp; omega)
    | (rw [plain_12]; simp [*]; omega)
set_option maxHeartbeats 4000000 in
theorem fld_13 : PF 13 := by
  intro op ty n kids t w ht
  unfold ndV
  have HT := hid ht
  clear ht
  cases hx : t.toList.isEmpty
  all_goals go_enter Tryz.func21, Tryz.ntmps21
  all_goals go_wp2_with (first
    | (go_at_call 37; refine (uses_13 _).mono ?_; rintro e w' ⟨rfl, rfl⟩)
    | (go_at_call 38; refine (named_13 _).mono ?_; rintro e w' ⟨rfl, rfl⟩)
    | (go_at_call 39; refine (l10NameOk_any t _ HT.out).mono ?_; rintro e w1 ⟨hs, hb⟩; obtain ⟨k0, k1, k2, k3, k4, k5⟩ := six_new hb; have HB1 := hid hb; clear hb; rcases hs.get with ⟨rfl, hp⟩ | ⟨rfl, hp⟩))
  all_goals go_ret
  all_goals refine ⟨⟨_, rfl, ?_⟩, ?_⟩
  all_goals first
    | exact (Below.refl w.heap.size w).alloc (Nat.le_refl _) _
    | (rw [plain_13]; simp [*]; done)
    | (rw [plain_13]; simp; omega)
    | (rw [plain_13]; simp [*]; omega)
set_option maxHeartbeats 4000000 in
theorem fld_14 : PF 14 := by
  intro op ty n kids t w ht
  unfold ndV
  have HT := hid ht
  clear ht
  cases hx : t.toList.isEmpty
  all_goals go_enter Tryz.func21, Tryz.ntmps21
  all_goals go_wp2_with (first
    | (go_at_call 37; refine (uses_14 _).mono ?_; rintro e w' ⟨rfl, rfl⟩)
    | (go_at_call 38; refine (named_14 _).mono ?_; rintro e w' ⟨rfl, rfl⟩)
    | (go_at_call 39; refine (l10NameOk_any t _ HT.out).mono ?_; rintro e w1 ⟨hs, hb⟩; obtain ⟨k0, k1, k2, k3, k4, k5⟩ := six_new hb; have HB1 := hid hb; clear hb; rcases hs.get with ⟨rfl, hp⟩ | ⟨rfl, hp⟩))
  all_goals go_ret
  all_goals refine ⟨⟨_, rfl, ?_⟩, ?_⟩
  all_goals first
    | exact (Below.refl w.heap.size w).alloc (Nat.le_refl _) _
    | (rw [plain_14]; simp [*]; done)
    | (rw [plain_14]; simp; omega)
    | (rw [plain_14]; simp [*]; omega)
set_option maxHeartbeats 4000000 in
theorem fld_15 : PF 15 := by
  intro op ty n kids t w ht
  unfold ndV
  have HT := hid ht
  clear ht
  cases hx : t.toList.isEmpty
  all_goals go_enter Tryz.func21, Tryz.ntmps21
  all_goals go_wp2_with (first
    | (go_at_call 37; refine (uses_15 _).mono ?_; rintro e w' ⟨rfl, rfl⟩)
    | (go_at_call 38; refine (named_15 _).mono ?_; rintro e w' ⟨rfl, rfl⟩)
    | (go_at_call 39; refine (l10NameOk_any t _ HT.out).mono ?_; rintro e w1 ⟨hs, hb⟩; obtain ⟨k0, k1, k2, k3, k4, k5⟩ := six_new hb; have HB1 := hid hb; clear hb; rcases hs.get with ⟨rfl, hp⟩ | ⟨rfl, hp⟩))
  all_goals go_ret
  all_goals refine ⟨⟨_, rfl, ?_⟩, ?_⟩
  all_goals first
    | exact (Below.refl w.heap.size w).alloc (Nat.le_refl _) _
    | (rw [plain_15]; simp [*]; done)
    | (rw [plain_15]; simp; omega)
    | (rw [plain_15]; simp [*]; omega)
set_option maxHeartbeats 4000000 in
theorem fld_16 : PF 16 := by
  intro op ty n kids t w ht
  unfold ndV
  have HT := hid ht
  clear ht
  cases hx : t.toList.isEmpty
  all_goals go_enter Tryz.func21, Tryz.ntmps21
  all_goals go_wp2_with (first
    | (go_at_call 37; refine (uses_16 _).mono ?_; rintro e w' ⟨rfl, rfl⟩)
    | (go_at_call 38; refine (named_16 _).mono ?_; rintro e w' ⟨rfl, rfl⟩)
    | (go_at_call 39; refine (l10NameOk_any t _ HT.out).mono ?_; rintro e w1 ⟨hs, hb⟩; obtain ⟨k0, k1, k2, k3, k4, k5⟩ := six_new hb; have HB1 := hid hb; clear hb; rcases hs.get with ⟨rfl, hp⟩ | ⟨rfl, hp⟩))
  all_goals go_ret
  all_goals refine ⟨⟨_, rfl, ?_⟩, ?_⟩
  all_goals first
    | exact (Below.refl w.heap.size w).alloc (Nat.le_refl _) _
    | (rw [plain_16]; simp [*]; done)
    | (rw [plain_16]; simp; omega)
    | (rw [plain_16]; simp [*]; omega)
set_option maxHeartbeats 4000000 in
theorem fld_17 : PF 17 := by
  intro op ty n kids t w ht
  unfold ndV
  have HT := hid ht
  clear ht
  cases hx : t.toList.isEmpty
  all_goals go_enter Tryz.func21, Tryz.ntmps21
  all_goals go_wp2_with (first
    | (go_at_call 37; refine (uses_17 _).mono ?_; rintro e w' ⟨rfl, rfl⟩)
    | (go_at_call 38; refine (named_17 _).mono ?_; rintro e w' ⟨rfl, rfl⟩)
    | (go_at_call 39; refine (l10NameOk_any t _ HT.out).mono ?_; rintro e w1 ⟨hs, hb⟩; obtain ⟨k0, k1, k2, k3, k4, k5⟩ := six_new hb; have HB1 := hid hb; clear hb; rcases hs.get with ⟨rfl, hp⟩ | ⟨rfl, hp⟩))
  all_goals go_ret
  all_goals refine ⟨⟨_, rfl, ?_⟩, ?_⟩
  all_goals first
    | exact (Below.refl w.heap.size w).alloc (Nat.le_refl _) _
    | (rw [plain_17]; simp [*]; done)
    | (rw [plain_17]; simp; omega)
    | (rw [plain_17]; simp [*]; omega)
set_option maxHeartbeats 4000000 in
theorem fld_18 : PF 18 := by
  intro op ty n kids t w ht
  unfold ndV
  have HT := hid ht
  clear ht
  cases hx : t.toList.isEmpty
  all_goals go_enter Tryz.func21, Tryz.ntmps21
  all_goals go_wp2_with (first
    | (go_at_call 37; refine (uses_18 _).mono ?_; rintro e w' ⟨rfl, rfl⟩)
    | (go_at_call 38; refine (named_18 _).mono ?_; rintro e w' ⟨rfl, rfl⟩)
    | (go_at_call 39; refine (l10NameOk_any t _ HT.out).mono ?_; rintro e w1 ⟨hs, hb⟩; obtain ⟨k0, k1, k2, k3, k4, k5⟩ := six_new hb; have HB1 := hid hb; clear hb; rcases hs.get with ⟨rfl, hp⟩ | ⟨rfl, hp⟩))
  all_goals go_ret
  all_goals refine ⟨⟨_, rfl, ?_⟩, ?_⟩
  all_goals first
    | exact (Below.refl w.heap.size w).alloc (Nat.le_refl _) _
    | (rw [plain_18]; simp [*]; done)
    | (rw [plain_18]; simp; omega)
    | (rw [plain_18]; simp [*]; omega)
set_option maxHeartbeats 4000000 in
theorem fld_19 : PF 19 := by
  intro op ty n kids t w ht
  unfold ndV
  have HT := hid ht
  clear ht
  cases hx : t.toList.isEmpty
  all_goals go_enter Tryz.func21, Tryz.ntmps21
  all_goals go_wp2_with (first
    | (go_at_call 37; refine (uses_19 _).mono ?_; rintro e w' ⟨rfl, rfl⟩)
    | (go_at_call 38; refine (named_19 _).mono ?_; rintro e w' ⟨rfl, rfl⟩)
    | (go_at_call 39; refine (l10NameOk_any t _ HT.out).mono ?_; rintro e w1 ⟨hs, hb⟩; obtain ⟨k0, k1, k2, k3, k4, k5⟩ := six_new hb; have HB1 := hid hb; clear hb; rcases hs.get with ⟨rfl, hp⟩ | ⟨rfl, hp⟩))
  all_goals go_ret
  all_goals refine ⟨⟨_, rfl, ?_⟩, ?_⟩
  all_goals first
    | exact (Below.refl w.heap.size w).alloc (Nat.le_refl _) _
    | (rw [plain_19]; simp [*]; done)
    | (rw [plain_19]; simp; omega)
    | (rw [plain_19]; simp [*]; omega)
set_option maxHeartbeats 4000000 in
theorem fld_20 : PF 20 := by
  intro op ty n kids t w ht
  unfold ndV
  have HT := hid ht
  clear ht
  cases hx : t.toList.isEmpty
  all_goals go_enter Tryz.func21, Tryz.ntmps21
  all_goals go_wp2_with (first
    | (go_at_call 37; refine (uses_20 _).mono ?_; rintro e w' ⟨rfl, rfl⟩)
    | (go_at_call 38; refine (named_20 _).mono ?_; rintro e w' ⟨rfl, rfl⟩)
    | (go_at_call 39; refine (l10NameOk_any t _ HT.out).mono ?_; rintro e w1 ⟨hs, hb⟩; obtain ⟨k0, k1, k2, k3, k4, k5⟩ := six_new hb; have HB1 := hid hb; clear hb; rcases hs.get with ⟨rfl, hp⟩ | ⟨rfl, hp⟩))
  all_goals go_ret
  all_goals refine ⟨⟨_, rfl, ?_⟩, ?_⟩
  all_goals first
    | exact (Below.refl w.heap.size w).alloc (Nat.le_refl _) _
    | (rw [plain_20]; simp [*]; done)
    | (rw [plain_20]; simp; omega)
    | (rw [plain_20]; simp [*]; omega)
set_option maxHeartbeats 4000000 in
theorem fld_21 : PF 21 := by
  intro op ty n kids t w ht
  unfold ndV
  have HT := hid ht
  clear ht
  cases hx : t.toList.isEmpty
  all_goals go_enter Tryz.func21, Tryz.ntmps21
  all_goals go_wp2_with (first
    | (go_at_call 37; refine (uses_21 _).mono ?_; rintro e w' ⟨rfl, rfl⟩)
    | (go_at_call 38; refine (named_21 _).mono ?_; rintro e w' ⟨rfl, rfl⟩)
    | (go_at_call 39; refine (l10NameOk_any t _ HT.out).mono ?_; rintro e w1 ⟨hs, hb⟩; obtain ⟨k0, k1, k2, k3, k4, k5⟩ := six_new hb; have HB1 := hid hb; clear hb; rcases hs.get with ⟨rfl, hp⟩ | ⟨rfl, hp⟩))
  all_goals go_ret
  all_goals refine ⟨⟨_, rfl, ?_⟩, ?_⟩
  all_goals first
    | exact (Below.refl w.heap.size w).alloc (Nat.le_refl _) _
    | (rw [plain_21]; simp [*]; done)
    | (rw [plain_21]; simp; omega)
    | (rw [plain_21]; simp [*]; omega)
set_option maxHeartbeats 4000000 in
theorem fld_24 : PF 24 := by
  intro op ty n kids t w ht
  unfold ndV
  have HT := hid ht
  clear ht
  cases hx : t.toList.isEmpty
  all_goals go_enter Tryz.func21, Tryz.ntmps21
  all_goals go_wp2_with (first
    | (go_at_call 37; refine (uses_24 _).mono ?_; rintro e w' ⟨rfl, rfl⟩)
    | (go_at_call 38; refine (named_24 _).mono ?_; rintro e w' ⟨rfl, rfl⟩)
    | (go_at_call 39; refine (l10NameOk_any t _ HT.out).mono ?_; rintro e w1 ⟨hs, hb⟩; obtain ⟨k0, k1, k2, k3, k4, k5⟩ := six_new hb; have HB1 := hid hb; clear hb; rcases hs.get with ⟨rfl, hp⟩ | ⟨rfl, hp⟩))
  all_goals go_ret
  all_goals refine ⟨⟨_, rfl, ?_⟩, ?_⟩
  all_goals first
    | exact (Below.refl w.heap.size w).alloc (Nat.le_refl _) _
    | (rw [plain_24]; simp [*]; done)
    | (rw [plain_24]; simp; omega)
    | (rw [plain_24]; simp [*]; omega)
end Go.Proofs.YtkngjbpbjjoneaaGreatDoor.Q
/-! Printed by gen_fld.py. -/
namespace Go.Proofs.YtkngjbpbjjoneaaGreatDoor.Q
open Go.RowKit Go.Shelf
set_option maxRecDepth 20000
set_option maxHeartbeats 4000000 in
theorem fld_2 : PF 2 := by
  intro op ty n kids t w ht
  unfold ndV
  have HT := hid ht
  clear ht
  go_enter Tryz.func21, Tryz.ntmps21
  go_wp2_with (first
    | (go_at_call 37; refine (uses_2 _).mono ?_; rintro e w' ⟨rfl, rfl⟩)
    | (go_at_call 38; refine (named_2 _).mono ?_; rintro e w' ⟨rfl, rfl⟩)
    | (go_at_call 39; refine (l10NameOk_any t _ HT.out).mono ?_; rintro e w1 ⟨hs, hb⟩; obtain ⟨k0, k1, k2, k3, k4, k5⟩ := six_new hb; have HB1 := hid hb; clear hb; rcases hs.get with ⟨rfl, hp⟩ | ⟨rfl, hp⟩))
  all_goals go_ret
  all_goals refine ⟨⟨_, rfl, ?_⟩, ?_⟩
  all_goals first
    | exact (Below.refl w.heap.size w).alloc (Nat.le_refl _) _
    | (rw [plain_2]; simp [*]; done)
    | (rw [plain_2]; simp; omega)
    | (rw [plain_2]; simp [*]; omega)
set_option maxHeartbeats 4000000 in
theorem fld_3 : PF 3 := by
  intro op ty n kids t w ht
  unfold ndV
  have HT := hid ht
  clear ht
  cases hx : t.toList.isEmpty
  all_goals go_enter Tryz.func21, Tryz.ntmps21
  all_goals go_wp2_with (first
    | (go_at_call 37; refine (uses_3 _).mono ?_; rintro e w' ⟨rfl, rfl⟩)
    | (go_at_call 38; refine (named_3 _).mono ?_; rintro e w' ⟨rfl, rfl⟩)
    | (go_at_call 39; refine (l10NameOk_any t _ HT.out).mono ?_; rintro e w1 ⟨hs, hb⟩; obtain ⟨k0, k1, k2, k3, k4, k5⟩ := six_new hb; have HB1 := hid hb; clear hb; rcases hs.get with ⟨rfl, hp⟩ | ⟨rfl, hp⟩))
  all_goals go_ret
  all_goals refine ⟨⟨_, rfl, ?_⟩, ?_⟩
  all_goals first
    | exact (Below.refl w.heap.size w).alloc (Nat.le_refl _) _
    | (rw [plain_3]; simp [*]; done)
    | (rw [plain_3]; simp; omega)
    | (rw [plain_3]; simp [*]; omega)
set_option maxHeartbeats 4000000 in
theorem fld_5 : PF 5 := by
  intro op ty n kids t w ht
  unfold ndV
  have HT := hid ht
  clear ht
  cases hx : t.toList.isEmpty
  all_goals go_enter Tryz.func21, Tryz.ntmps21
  all_goals go_wp2_with (first
    | (go_at_call 37; refine (uses_5 _).mono ?_; rintro e w' ⟨rfl, rfl⟩)
    | (go_at_call 38; refine (named_5 _).mono ?_; rintro e w' ⟨rfl, rfl⟩)
    | (go_at_call 39; refine (l10NameOk_any t _ HT.out).mono ?_; rintro e w1 ⟨hs, hb⟩; obtain ⟨k0, k1, k2, k3, k4, k5⟩ := six_new hb; have HB1 := hid hb; clear hb; rcases hs.get with ⟨rfl, hp⟩ | ⟨rfl, hp⟩))
  all_goals go_ret
  all_goals refine ⟨⟨_, rfl, ?_⟩, ?_⟩
  all_goals first
    | exact (Below.refl w.heap.size w).alloc (Nat.le_refl _) _
    | (rw [plain_5]; simp [*]; done)
    | (rw [plain_5]; simp; omega)
    | (rw [plain_5]; simp [*]; omega)
set_option maxHeartbeats 4000000 in
theorem fld_6 : PF 6 := by
  intro op ty n kids t w ht
  unfold ndV
  have HT := hid ht
  clear ht
  cases hx : t.toList.isEmpty
  all_goals go_enter Tryz.func21, Tryz.ntmps21
  all_goals go_wp2_with (first
    | (go_at_call 37; refine (uses_6 _).mono ?_; rintro e w' ⟨rfl, rfl⟩)
    | (go_at_call 38; refine (named_6 _).mono ?_; rintro e w' ⟨rfl, rfl⟩)
    | (go_at_call 39; refine (l10NameOk_any t _ HT.out).mono ?_; rintro e w1 ⟨hs, hb⟩; obtain ⟨k0, k1, k2, k3, k4, k5⟩ := six_new hb; have HB1 := hid hb; clear hb; rcases hs.get with ⟨rfl, hp⟩ | ⟨rfl, hp⟩))
  all_goals go_ret
  all_goals refine ⟨⟨_, rfl, ?_⟩, ?_⟩
  all_goals first
    | exact (Below.refl w.heap.size w).alloc (Nat.le_refl _) _
    | (rw [plain_6]; simp [*]; done)
    | (rw [plain_6]; simp; omega)
    | (rw [plain_6]; simp [*]; omega)
set_option maxHeartbeats 4000000 in
theorem fld_8 : PF 8 := by
  intro op ty n kids t w ht
  unfold ndV
  have HT := hid ht
  clear ht
  cases hx : t.toList.isEmpty
  all_goals go_enter Tryz.func21, Tryz.ntmps21
  all_goals go_wp2_with (first
    | (go_at_call 37; refine (uses_8 _).mono ?_; rintro e w' ⟨rfl, rfl⟩)
    | (go_at_call 38; refine (named_8 _).mono ?_; rintro e w' ⟨rfl, rfl⟩)
    | (go_at_call 39; refine (l10NameOk_any t _ HT.out).mono ?_; rintro e w1 ⟨hs, hb⟩; obtain ⟨k0, k1, k2, k3, k4, k5⟩ := six_new hb; have HB1 := hid hb; clear hb; rcases hs.get with ⟨rfl, hp⟩ | ⟨rfl, hp⟩))
  all_goals go_ret
  all_goals refine ⟨⟨_, rfl, ?_⟩, ?_⟩
  all_goals first
    | exact (Below.refl w.heap.size w).alloc (Nat.le_refl _) _
    | (rw [plain_8]; simp [*]; done)
    | (rw [plain_8]; simp; omega)
    | (rw [plain_8]; simp [*]; omega)
set_option maxHeartbeats 4000000 in
theorem fld_9 : PF 9 := by
  intro op ty n kids t w ht
  unfold ndV
  have HT := hid ht
  clear ht
  cases hx : t.toList.isEmpty
  all_goals go_enter Tryz.func21, Tryz.ntmps21
  all_goals go_wp2_with (first
    | (go_at_call 37; refine (uses_9 _).mono ?_; rintro e w' ⟨rfl, rfl⟩)
    | (go_at_call 38; refine (named_9 _).mono ?_; rintro e w' ⟨rfl, rfl⟩)
    | (go_at_call 40; refine (l10Integer_int ty _).mono ?_; rintro e w' ⟨rfl, rfl⟩)
    | (go_at_call 39; refine (l10NameOk_any t _ HT.out).mono ?_; rintro e w1 ⟨hs, hb⟩; obtain ⟨k0, k1, k2, k3, k4, k5⟩ := six_new hb; have HB1 := hid hb; clear hb; rcases hs.get with ⟨rfl, hp⟩ | ⟨rfl, hp⟩))
  all_goals go_ret
  all_goals refine ⟨⟨_, rfl, ?_⟩, ?_⟩
  all_goals first
    | exact (Below.refl w.heap.size w).alloc (Nat.le_refl _) _
    | (rw [plain_9]; simp [*]; done)
    | (rw [plain_9]; simp; omega)
    | (rw [plain_9]; simp [*]; omega)
end Go.Proofs.YtkngjbpbjjoneaaGreatDoor.Q
/-! Printed by gen_fld.py. -/
namespace Go.Proofs.YtkngjbpbjjoneaaGreatDoor.Q
open Go.RowKit Go.Shelf
set_option maxRecDepth 20000
set_option maxHeartbeats 4000000 in
theorem fld_4 : PF 4 := by
  intro op ty n kids t w ht
  unfold ndV
  have HT := hid ht
  clear ht
  go_enter Tryz.func21, Tryz.ntmps21
  go_wp2_with (first
    | (go_at_call 37; refine (uses_4 _).mono ?_; rintro e w' ⟨rfl, rfl⟩)
    | (go_at_call 38; refine (named_4 _).mono ?_; rintro e w' ⟨rfl, rfl⟩)
    | (go_at_call 39; refine (l10NameOk_any t _ HT.out).mono ?_; rintro e w1 ⟨hs, hb⟩; obtain ⟨k0, k1, k2, k3, k4, k5⟩ := six_new hb; have HB1 := hid hb; clear hb; rcases hs.get with ⟨rfl, hp⟩ | ⟨rfl, hp⟩))
  all_goals go_ret
  all_goals refine ⟨⟨_, rfl, ?_⟩, ?_⟩
  all_goals first
    | exact (Below.refl w.heap.size w).alloc (Nat.le_refl _) _
    | exact ((Below.refl w.heap.size w).alloc (Nat.le_refl _) _).trans (Below.mono HB1.out (B' := w.heap.size) (by simp))
    | (rw [plain_4]; simp [*]; done)
    | (rw [plain_4]; simp; omega)
    | (rw [plain_4]; simp [*]; omega)
set_option maxHeartbeats 4000000 in
theorem fld_7 : PF 7 := by
  intro op ty n kids t w ht
  unfold ndV
  have HT := hid ht
  clear ht
  go_enter Tryz.func21, Tryz.ntmps21
  go_wp2_with (first
    | (go_at_call 37; refine (uses_7 _).mono ?_; rintro e w' ⟨rfl, rfl⟩)
    | (go_at_call 38; refine (named_7 _).mono ?_; rintro e w' ⟨rfl, rfl⟩)
    | (go_at_call 39; refine (l10NameOk_any t _ HT.out).mono ?_; rintro e w1 ⟨hs, hb⟩; obtain ⟨k0, k1, k2, k3, k4, k5⟩ := six_new hb; have HB1 := hid hb; clear hb; rcases hs.get with ⟨rfl, hp⟩ | ⟨rfl, hp⟩))
  all_goals go_ret
  all_goals refine ⟨⟨_, rfl, ?_⟩, ?_⟩
  all_goals first
    | exact (Below.refl w.heap.size w).alloc (Nat.le_refl _) _
    | exact ((Below.refl w.heap.size w).alloc (Nat.le_refl _) _).trans (Below.mono HB1.out (B' := w.heap.size) (by simp))
    | (rw [plain_7]; simp [*]; done)
    | (rw [plain_7]; simp; omega)
    | (rw [plain_7]; simp [*]; omega)
set_option maxHeartbeats 4000000 in
theorem fld_10 : PF 10 := by
  intro op ty n kids t w ht
  unfold ndV
  have HT := hid ht
  clear ht
  go_enter Tryz.func21, Tryz.ntmps21
  go_wp2_with (first
    | (go_at_call 37; refine (uses_10 _).mono ?_; rintro e w' ⟨rfl, rfl⟩)
    | (go_at_call 38; refine (named_10 _).mono ?_; rintro e w' ⟨rfl, rfl⟩)
    | (go_at_call 39; refine (l10NameOk_any t _ HT.out).mono ?_; rintro e w1 ⟨hs, hb⟩; obtain ⟨k0, k1, k2, k3, k4, k5⟩ := six_new hb; have HB1 := hid hb; clear hb; rcases hs.get with ⟨rfl, hp⟩ | ⟨rfl, hp⟩))
  all_goals go_ret
  all_goals refine ⟨⟨_, rfl, ?_⟩, ?_⟩
  all_goals first
    | exact (Below.refl w.heap.size w).alloc (Nat.le_refl _) _
    | exact ((Below.refl w.heap.size w).alloc (Nat.le_refl _) _).trans (Below.mono HB1.out (B' := w.heap.size) (by simp))
    | (rw [plain_10]; simp [*]; done)
    | (rw [plain_10]; simp; omega)
    | (rw [plain_10]; simp [*]; omega)
set_option maxHeartbeats 4000000 in
theorem fld_11 : PF 11 := by
  intro op ty n kids t w ht
  unfold ndV
  have HT := hid ht
  clear ht
  go_enter Tryz.func21, Tryz.ntmps21
  go_wp2_with (first
    | (go_at_call 37; refine (uses_11 _).mono ?_; rintro e w' ⟨rfl, rfl⟩)
    | (go_at_call 38; refine (named_11 _).mono ?_; rintro e w' ⟨rfl, rfl⟩)
    | (go_at_call 39; refine (l10NameOk_any t _ HT.out).mono ?_; rintro e w1 ⟨hs, hb⟩; obtain ⟨k0, k1, k2, k3, k4, k5⟩ := six_new hb; have HB1 := hid hb; clear hb; rcases hs.get with ⟨rfl, hp⟩ | ⟨rfl, hp⟩))
  all_goals go_ret
  all_goals refine ⟨⟨_, rfl, ?_⟩, ?_⟩
  all_goals first
    | exact (Below.refl w.heap.size w).alloc (Nat.le_refl _) _
    | exact ((Below.refl w.heap.size w).alloc (Nat.le_refl _) _).trans (Below.mono HB1.out (B' := w.heap.size) (by simp))
    | (rw [plain_11]; simp [*]; done)
    | (rw [plain_11]; simp; omega)
    | (rw [plain_11]; simp [*]; omega)
set_option maxHeartbeats 4000000 in
theorem fld_22 : PF 22 := by
  intro op ty n kids t w ht
  unfold ndV
  have HT := hid ht
  clear ht
  go_enter Tryz.func21, Tryz.ntmps21
  go_wp2_with (first
    | (go_at_call 37; refine (uses_22 _).mono ?_; rintro e w' ⟨rfl, rfl⟩)
    | (go_at_call 38; refine (named_22 _).mono ?_; rintro e w' ⟨rfl, rfl⟩)
    | (go_at_call 39; refine (l10NameOk_any t _ HT.out).mono ?_; rintro e w1 ⟨hs, hb⟩; obtain ⟨k0, k1, k2, k3, k4, k5⟩ := six_new hb; have HB1 := hid hb; clear hb; rcases hs.get with ⟨rfl, hp⟩ | ⟨rfl, hp⟩))
  all_goals go_ret
  all_goals refine ⟨⟨_, rfl, ?_⟩, ?_⟩
  all_goals first
    | exact (Below.refl w.heap.size w).alloc (Nat.le_refl _) _
    | exact ((Below.refl w.heap.size w).alloc (Nat.le_refl _) _).trans (Below.mono HB1.out (B' := w.heap.size) (by simp))
    | (rw [plain_22]; simp [*]; done)
    | (rw [plain_22]; simp; omega)
    | (rw [plain_22]; simp [*]; omega)
set_option maxHeartbeats 4000000 in
theorem fld_23 : PF 23 := by
  intro op ty n kids t w ht
  unfold ndV
  have HT := hid ht
  clear ht
  go_enter Tryz.func21, Tryz.ntmps21
  go_wp2_with (first
    | (go_at_call 37; refine (uses_23 _).mono ?_; rintro e w' ⟨rfl, rfl⟩)
    | (go_at_call 38; refine (named_23 _).mono ?_; rintro e w' ⟨rfl, rfl⟩)
    | (go_at_call 39; refine (l10NameOk_any t _ HT.out).mono ?_; rintro e w1 ⟨hs, hb⟩; obtain ⟨k0, k1, k2, k3, k4, k5⟩ := six_new hb; have HB1 := hid hb; clear hb; rcases hs.get with ⟨rfl, hp⟩ | ⟨rfl, hp⟩))
  all_goals go_ret
  all_goals refine ⟨⟨_, rfl, ?_⟩, ?_⟩
  all_goals first
    | exact (Below.refl w.heap.size w).alloc (Nat.le_refl _) _
    | exact ((Below.refl w.heap.size w).alloc (Nat.le_refl _) _).trans (Below.mono HB1.out (B' := w.heap.size) (by simp))
    | (rw [plain_23]; simp [*]; done)
    | (rw [plain_23]; simp; omega)
    | (rw [plain_23]; simp [*]; omega)
end Go.Proofs.YtkngjbpbjjoneaaGreatDoor.Q
