import Derived.Test.YtkngjbpbjjoneaaGreatDoorJ19
import Derived.Test.YtkngjbpbjjoneaaGreatDoorJ04
/-! Printed by gen_fit.py. -/
namespace Go.Proofs.YtkngjbpbjjoneaaGreatDoor.Q
open Go.RowKit Go.Shelf
set_option maxRecDepth 20000
set_option maxHeartbeats 4000000 in
theorem kf_8 : KF 8 := by
  intro op ty n kids t ad m c st sh w hm h8 hcm hc hs he
  have HB0 := hid ((Below.refl w.heap.size w).alloc (Nat.le_refl _) (.cells #[.int .i64 8, .int .i64 op, .int .i64 ty, .int .i64 n, .string t, .int .i64 kids] 63))
  have HS := hid (hs.below HB0.out)
  have HK := hid (ko_8 op ty n kids t m st)
  unfold ndV
  obtain ⟨h1, h2⟩ := h8 rfl
  have HE := hid (he.below HB0.out)
  clear hs he h8
  obtain ⟨hg0, b1, b2, b3, b4, b5, b6, b7, b8, b9, b10, b11, b12⟩ := HE.out
  simp only [World.size_alloc] at hg0
  obtain rfl | rfl | rfl | rfl | rfl | rfl | rfl | rfl | rfl | rfl | rfl | rfl : op = 1 ∨ op = 2 ∨ op = 3 ∨ op = 4 ∨ op = 5 ∨ op = 6 ∨ op = 7 ∨ op = 8 ∨ op = 9 ∨ op = 10 ∨ op = 11 ∨ op = 12 := by omega
  · clear b2 b3 b4 b5 b6 b7 b8 b9 b10 b11 b12 HE
    have hbk : (builtKids 1 : Nat) = 1 := by decide
    rw [hbk] at HK
    clear hbk
    have t0 := fun p : Gr (w.alloc (.cells #[.int .i64 8, .int .i64 1, .int .i64 ty, .int .i64 n, .string t, .int .i64 kids] 63)) => (p.h.cell (p := ⟨w.heap.size, 1, none⟩) (by simp)).trans (show World.cell? (w.alloc (.cells #[.int .i64 8, .int .i64 1, .int .i64 ty, .int .i64 n, .string t, .int .i64 kids] 63)) ⟨w.heap.size, 1, none⟩ = some (.int .i64 1) by rw [cell_new_row]; rfl)
    have t1 := fun p : Gr (w.alloc (.cells #[.int .i64 8, .int .i64 1, .int .i64 ty, .int .i64 n, .string t, .int .i64 kids] 63)) => (p.h.cell (p := ⟨1, 3, none⟩) (by rw [World.size_alloc]; exact hg0)).trans b1
    have hne : Nonempty (Gr (w.alloc (.cells #[.int .i64 8, .int .i64 1, .int .i64 ty, .int .i64 n, .string t, .int .i64 kids] 63))) := ⟨⟨_, Below.refl _ _⟩⟩
    clear b1
    by_cases hP : ((1 : Int) ≤ m ∧ (m : Int) ≤ 1 ∧ AllE m st)
    · have HP := hid hP
      have HY := hid (HK.out.2 ⟨by omega, hP.2.2⟩)
      clear hP
      go_enter Tryz.func28, Tryz.ntmps28
      go_wp2
      refine wp_region_gr (by kernel_rfl) (by kernel_rfl) ?_
      repeat (go_big_quiet_step (first | (go_at_call 51; refine Calls.gr_of (v := .bool true) fun hbp => ?_; refine (areE_any ad m c 1 1 st sh _ hm (HS.out.below hbp)).mono ?_; rintro e w3 ⟨hs3, hb3⟩; exact ⟨hs3.pos HP.out, hb3⟩)))
      refine wpQuiet_nil ?_
      intro _ hw'
      obtain ⟨pw, rfl⟩ := hw'
      have HB4 := hid (HB0.out.trans (pw.h.mono (by simp)))
      clear t0 t1
      go_wp2
      go_ret
      exact ⟨says_t HY.out, HB4.out⟩
    · have HP := hid hP
      have HN : Hid (¬ KidsOk ⟨8, 1, ty, n, t, kids⟩ m st) := fun h => hP ⟨by have := (HK.out.1 h).1; omega, by have := (HK.out.1 h).1; omega, (HK.out.1 h).2⟩
      clear hP
      go_enter Tryz.func28, Tryz.ntmps28
      go_wp2
      refine wp_region_gr (by kernel_rfl) (by kernel_rfl) ?_
      repeat (go_big_quiet_step (first | (go_at_call 51; refine Calls.gr_of (v := .bool false) fun hbp => ?_; refine (areE_any ad m c 1 1 st sh _ hm (HS.out.below hbp)).mono ?_; rintro e w3 ⟨hs3, hb3⟩; exact ⟨hs3.neg HP.out, hb3⟩)))
      refine wpQuiet_nil ?_
      intro _ hw'
      obtain ⟨pw, rfl⟩ := hw'
      have HB4 := hid (HB0.out.trans (pw.h.mono (by simp)))
      clear t0 t1
      go_wp2
      go_ret
      exact ⟨says_f HN.out, HB4.out⟩
  · clear b1 b3 b4 b5 b6 b7 b8 b9 b10 b11 b12 HE
    have hbk : (builtKids 2 : Nat) = 1 := by decide
    rw [hbk] at HK
    clear hbk
    have t0 := fun p : Gr (w.alloc (.cells #[.int .i64 8, .int .i64 2, .int .i64 ty, .int .i64 n, .string t, .int .i64 kids] 63)) => (p.h.cell (p := ⟨w.heap.size, 1, none⟩) (by simp)).trans (show World.cell? (w.alloc (.cells #[.int .i64 8, .int .i64 2, .int .i64 ty, .int .i64 n, .string t, .int .i64 kids] 63)) ⟨w.heap.size, 1, none⟩ = some (.int .i64 2) by rw [cell_new_row]; rfl)
    have t1 := fun p : Gr (w.alloc (.cells #[.int .i64 8, .int .i64 2, .int .i64 ty, .int .i64 n, .string t, .int .i64 kids] 63)) => (p.h.cell (p := ⟨1, 5, none⟩) (by rw [World.size_alloc]; exact hg0)).trans b2
    have hne : Nonempty (Gr (w.alloc (.cells #[.int .i64 8, .int .i64 2, .int .i64 ty, .int .i64 n, .string t, .int .i64 kids] 63))) := ⟨⟨_, Below.refl _ _⟩⟩
    clear b2
    by_cases hP : ((1 : Int) ≤ m ∧ (m : Int) ≤ 1 ∧ AllE m st)
    · have HP := hid hP
      have HY := hid (HK.out.2 ⟨by omega, hP.2.2⟩)
      clear hP
      go_enter Tryz.func28, Tryz.ntmps28
      go_wp2
      refine wp_region_gr (by kernel_rfl) (by kernel_rfl) ?_
      repeat (go_big_quiet_step (first | (go_at_call 51; refine Calls.gr_of (v := .bool true) fun hbp => ?_; refine (areE_any ad m c 1 1 st sh _ hm (HS.out.below hbp)).mono ?_; rintro e w3 ⟨hs3, hb3⟩; exact ⟨hs3.pos HP.out, hb3⟩)))
      refine wpQuiet_nil ?_
      intro _ hw'
      obtain ⟨pw, rfl⟩ := hw'
      have HB4 := hid (HB0.out.trans (pw.h.mono (by simp)))
      clear t0 t1
      go_wp2
      go_ret
      exact ⟨says_t HY.out, HB4.out⟩
    · have HP := hid hP
      have HN : Hid (¬ KidsOk ⟨8, 2, ty, n, t, kids⟩ m st) := fun h => hP ⟨by have := (HK.out.1 h).1; omega, by have := (HK.out.1 h).1; omega, (HK.out.1 h).2⟩
      clear hP
      go_enter Tryz.func28, Tryz.ntmps28
      go_wp2
      refine wp_region_gr (by kernel_rfl) (by kernel_rfl) ?_
      repeat (go_big_quiet_step (first | (go_at_call 51; refine Calls.gr_of (v := .bool false) fun hbp => ?_; refine (areE_any ad m c 1 1 st sh _ hm (HS.out.below hbp)).mono ?_; rintro e w3 ⟨hs3, hb3⟩; exact ⟨hs3.neg HP.out, hb3⟩)))
      refine wpQuiet_nil ?_
      intro _ hw'
      obtain ⟨pw, rfl⟩ := hw'
      have HB4 := hid (HB0.out.trans (pw.h.mono (by simp)))
      clear t0 t1
      go_wp2
      go_ret
      exact ⟨says_f HN.out, HB4.out⟩
  · clear b1 b2 b4 b5 b6 b7 b8 b9 b10 b11 b12 HE
    have hbk : (builtKids 3 : Nat) = 1 := by decide
    rw [hbk] at HK
    clear hbk
    have t0 := fun p : Gr (w.alloc (.cells #[.int .i64 8, .int .i64 3, .int .i64 ty, .int .i64 n, .string t, .int .i64 kids] 63)) => (p.h.cell (p := ⟨w.heap.size, 1, none⟩) (by simp)).trans (show World.cell? (w.alloc (.cells #[.int .i64 8, .int .i64 3, .int .i64 ty, .int .i64 n, .string t, .int .i64 kids] 63)) ⟨w.heap.size, 1, none⟩ = some (.int .i64 3) by rw [cell_new_row]; rfl)
    have t1 := fun p : Gr (w.alloc (.cells #[.int .i64 8, .int .i64 3, .int .i64 ty, .int .i64 n, .string t, .int .i64 kids] 63)) => (p.h.cell (p := ⟨1, 7, none⟩) (by rw [World.size_alloc]; exact hg0)).trans b3
    have hne : Nonempty (Gr (w.alloc (.cells #[.int .i64 8, .int .i64 3, .int .i64 ty, .int .i64 n, .string t, .int .i64 kids] 63))) := ⟨⟨_, Below.refl _ _⟩⟩
    clear b3
    by_cases hP : ((1 : Int) ≤ m ∧ (m : Int) ≤ 1 ∧ AllE m st)
    · have HP := hid hP
      have HY := hid (HK.out.2 ⟨by omega, hP.2.2⟩)
      clear hP
      go_enter Tryz.func28, Tryz.ntmps28
      go_wp2
      refine wp_region_gr (by kernel_rfl) (by kernel_rfl) ?_
      repeat (go_big_quiet_step (first | (go_at_call 51; refine Calls.gr_of (v := .bool true) fun hbp => ?_; refine (areE_any ad m c 1 1 st sh _ hm (HS.out.below hbp)).mono ?_; rintro e w3 ⟨hs3, hb3⟩; exact ⟨hs3.pos HP.out, hb3⟩)))
      refine wpQuiet_nil ?_
      intro _ hw'
      obtain ⟨pw, rfl⟩ := hw'
      have HB4 := hid (HB0.out.trans (pw.h.mono (by simp)))
      clear t0 t1
      go_wp2
      go_ret
      exact ⟨says_t HY.out, HB4.out⟩
    · have HP := hid hP
      have HN : Hid (¬ KidsOk ⟨8, 3, ty, n, t, kids⟩ m st) := fun h => hP ⟨by have := (HK.out.1 h).1; omega, by have := (HK.out.1 h).1; omega, (HK.out.1 h).2⟩
      clear hP
      go_enter Tryz.func28, Tryz.ntmps28
      go_wp2
      refine wp_region_gr (by kernel_rfl) (by kernel_rfl) ?_
      repeat (go_big_quiet_step (first | (go_at_call 51; refine Calls.gr_of (v := .bool false) fun hbp => ?_; refine (areE_any ad m c 1 1 st sh _ hm (HS.out.below hbp)).mono ?_; rintro e w3 ⟨hs3, hb3⟩; exact ⟨hs3.neg HP.out, hb3⟩)))
      refine wpQuiet_nil ?_
      intro _ hw'
      obtain ⟨pw, rfl⟩ := hw'
      have HB4 := hid (HB0.out.trans (pw.h.mono (by simp)))
      clear t0 t1
      go_wp2
      go_ret
      exact ⟨says_f HN.out, HB4.out⟩
  · clear b1 b2 b3 b5 b6 b7 b8 b9 b10 b11 b12 HE
    have hbk : (builtKids 4 : Nat) = 2 := by decide
    rw [hbk] at HK
    clear hbk
    have t0 := fun p : Gr (w.alloc (.cells #[.int .i64 8, .int .i64 4, .int .i64 ty, .int .i64 n, .string t, .int .i64 kids] 63)) => (p.h.cell (p := ⟨w.heap.size, 1, none⟩) (by simp)).trans (show World.cell? (w.alloc (.cells #[.int .i64 8, .int .i64 4, .int .i64 ty, .int .i64 n, .string t, .int .i64 kids] 63)) ⟨w.heap.size, 1, none⟩ = some (.int .i64 4) by rw [cell_new_row]; rfl)
    have t1 := fun p : Gr (w.alloc (.cells #[.int .i64 8, .int .i64 4, .int .i64 ty, .int .i64 n, .string t, .int .i64 kids] 63)) => (p.h.cell (p := ⟨1, 9, none⟩) (by rw [World.size_alloc]; exact hg0)).trans b4
    have hne : Nonempty (Gr (w.alloc (.cells #[.int .i64 8, .int .i64 4, .int .i64 ty, .int .i64 n, .string t, .int .i64 kids] 63))) := ⟨⟨_, Below.refl _ _⟩⟩
    clear b4
    by_cases hP : ((2 : Int) ≤ m ∧ (m : Int) ≤ 2 ∧ AllE m st)
    · have HP := hid hP
      have HY := hid (HK.out.2 ⟨by omega, hP.2.2⟩)
      clear hP
      go_enter Tryz.func28, Tryz.ntmps28
      go_wp2
      refine wp_region_gr (by kernel_rfl) (by kernel_rfl) ?_
      repeat (go_big_quiet_step (first | (go_at_call 51; refine Calls.gr_of (v := .bool true) fun hbp => ?_; refine (areE_any ad m c 2 2 st sh _ hm (HS.out.below hbp)).mono ?_; rintro e w3 ⟨hs3, hb3⟩; exact ⟨hs3.pos HP.out, hb3⟩)))
      refine wpQuiet_nil ?_
      intro _ hw'
      obtain ⟨pw, rfl⟩ := hw'
      have HB4 := hid (HB0.out.trans (pw.h.mono (by simp)))
      clear t0 t1
      go_wp2
      go_ret
      exact ⟨says_t HY.out, HB4.out⟩
    · have HP := hid hP
      have HN : Hid (¬ KidsOk ⟨8, 4, ty, n, t, kids⟩ m st) := fun h => hP ⟨by have := (HK.out.1 h).1; omega, by have := (HK.out.1 h).1; omega, (HK.out.1 h).2⟩
      clear hP
      go_enter Tryz.func28, Tryz.ntmps28
      go_wp2
      refine wp_region_gr (by kernel_rfl) (by kernel_rfl) ?_
      repeat (go_big_quiet_step (first | (go_at_call 51; refine Calls.gr_of (v := .bool false) fun hbp => ?_; refine (areE_any ad m c 2 2 st sh _ hm (HS.out.below hbp)).mono ?_; rintro e w3 ⟨hs3, hb3⟩; exact ⟨hs3.neg HP.out, hb3⟩)))
      refine wpQuiet_nil ?_
      intro _ hw'
      obtain ⟨pw, rfl⟩ := hw'
      have HB4 := hid (HB0.out.trans (pw.h.mono (by simp)))
      clear t0 t1
      go_wp2
      go_ret
      exact ⟨says_f HN.out, HB4.out⟩
  · clear b1 b2 b3 b4 b6 b7 b8 b9 b10 b11 b12 HE
    have hbk : (builtKids 5 : Nat) = 0 := by decide
    rw [hbk] at HK
    clear hbk
    have t0 := fun p : Gr (w.alloc (.cells #[.int .i64 8, .int .i64 5, .int .i64 ty, .int .i64 n, .string t, .int .i64 kids] 63)) => (p.h.cell (p := ⟨w.heap.size, 1, none⟩) (by simp)).trans (show World.cell? (w.alloc (.cells #[.int .i64 8, .int .i64 5, .int .i64 ty, .int .i64 n, .string t, .int .i64 kids] 63)) ⟨w.heap.size, 1, none⟩ = some (.int .i64 5) by rw [cell_new_row]; rfl)
    have t1 := fun p : Gr (w.alloc (.cells #[.int .i64 8, .int .i64 5, .int .i64 ty, .int .i64 n, .string t, .int .i64 kids] 63)) => (p.h.cell (p := ⟨1, 11, none⟩) (by rw [World.size_alloc]; exact hg0)).trans b5
    have hne : Nonempty (Gr (w.alloc (.cells #[.int .i64 8, .int .i64 5, .int .i64 ty, .int .i64 n, .string t, .int .i64 kids] 63))) := ⟨⟨_, Below.refl _ _⟩⟩
    clear b5
    by_cases hP : ((0 : Int) ≤ m ∧ (m : Int) ≤ 0 ∧ AllE m st)
    · have HP := hid hP
      have HY := hid (HK.out.2 ⟨by omega, hP.2.2⟩)
      clear hP
      go_enter Tryz.func28, Tryz.ntmps28
      go_wp2
      refine wp_region_gr (by kernel_rfl) (by kernel_rfl) ?_
      repeat (go_big_quiet_step (first | (go_at_call 51; refine Calls.gr_of (v := .bool true) fun hbp => ?_; refine (areE_any ad m c 0 0 st sh _ hm (HS.out.below hbp)).mono ?_; rintro e w3 ⟨hs3, hb3⟩; exact ⟨hs3.pos HP.out, hb3⟩)))
      refine wpQuiet_nil ?_
      intro _ hw'
      obtain ⟨pw, rfl⟩ := hw'
      have HB4 := hid (HB0.out.trans (pw.h.mono (by simp)))
      clear t0 t1
      go_wp2
      go_ret
      exact ⟨says_t HY.out, HB4.out⟩
    · have HP := hid hP
      have HN : Hid (¬ KidsOk ⟨8, 5, ty, n, t, kids⟩ m st) := fun h => hP ⟨by have := (HK.out.1 h).1; omega, by have := (HK.out.1 h).1; omega, (HK.out.1 h).2⟩
      clear hP
      go_enter Tryz.func28, Tryz.ntmps28
      go_wp2
      refine wp_region_gr (by kernel_rfl) (by kernel_rfl) ?_
      repeat (go_big_quiet_step (first | (go_at_call 51; refine Calls.gr_of (v := .bool false) fun hbp => ?_; refine (areE_any ad m c 0 0 st sh _ hm (HS.out.below hbp)).mono ?_; rintro e w3 ⟨hs3, hb3⟩; exact ⟨hs3.neg HP.out, hb3⟩)))
      refine wpQuiet_nil ?_
      intro _ hw'
      obtain ⟨pw, rfl⟩ := hw'
      have HB4 := hid (HB0.out.trans (pw.h.mono (by simp)))
      clear t0 t1
      go_wp2
      go_ret
      exact ⟨says_f HN.out, HB4.out⟩
  · clear b1 b2 b3 b4 b5 b7 b8 b9 b10 b11 b12 HE
    have hbk : (builtKids 6 : Nat) = 1 := by decide
    rw [hbk] at HK
    clear hbk
    have t0 := fun p : Gr (w.alloc (.cells #[.int .i64 8, .int .i64 6, .int .i64 ty, .int .i64 n, .string t, .int .i64 kids] 63)) => (p.h.cell (p := ⟨w.heap.size, 1, none⟩) (by simp)).trans (show World.cell? (w.alloc (.cells #[.int .i64 8, .int .i64 6, .int .i64 ty, .int .i64 n, .string t, .int .i64 kids] 63)) ⟨w.heap.size, 1, none⟩ = some (.int .i64 6) by rw [cell_new_row]; rfl)
    have t1 := fun p : Gr (w.alloc (.cells #[.int .i64 8, .int .i64 6, .int .i64 ty, .int .i64 n, .string t, .int .i64 kids] 63)) => (p.h.cell (p := ⟨1, 13, none⟩) (by rw [World.size_alloc]; exact hg0)).trans b6
    have hne : Nonempty (Gr (w.alloc (.cells #[.int .i64 8, .int .i64 6, .int .i64 ty, .int .i64 n, .string t, .int .i64 kids] 63))) := ⟨⟨_, Below.refl _ _⟩⟩
    clear b6
    by_cases hP : ((1 : Int) ≤ m ∧ (m : Int) ≤ 1 ∧ AllE m st)
    · have HP := hid hP
      have HY := hid (HK.out.2 ⟨by omega, hP.2.2⟩)
      clear hP
      go_enter Tryz.func28, Tryz.ntmps28
      go_wp2
      refine wp_region_gr (by kernel_rfl) (by kernel_rfl) ?_
      repeat (go_big_quiet_step (first | (go_at_call 51; refine Calls.gr_of (v := .bool true) fun hbp => ?_; refine (areE_any ad m c 1 1 st sh _ hm (HS.out.below hbp)).mono ?_; rintro e w3 ⟨hs3, hb3⟩; exact ⟨hs3.pos HP.out, hb3⟩)))
      refine wpQuiet_nil ?_
      intro _ hw'
      obtain ⟨pw, rfl⟩ := hw'
      have HB4 := hid (HB0.out.trans (pw.h.mono (by simp)))
      clear t0 t1
      go_wp2
      go_ret
      exact ⟨says_t HY.out, HB4.out⟩
    · have HP := hid hP
      have HN : Hid (¬ KidsOk ⟨8, 6, ty, n, t, kids⟩ m st) := fun h => hP ⟨by have := (HK.out.1 h).1; omega, by have := (HK.out.1 h).1; omega, (HK.out.1 h).2⟩
      clear hP
      go_enter Tryz.func28, Tryz.ntmps28
      go_wp2
      refine wp_region_gr (by kernel_rfl) (by kernel_rfl) ?_
      repeat (go_big_quiet_step (first | (go_at_call 51; refine Calls.gr_of (v := .bool false) fun hbp => ?_; refine (areE_any ad m c 1 1 st sh _ hm (HS.out.below hbp)).mono ?_; rintro e w3 ⟨hs3, hb3⟩; exact ⟨hs3.neg HP.out, hb3⟩)))
      refine wpQuiet_nil ?_
      intro _ hw'
      obtain ⟨pw, rfl⟩ := hw'
      have HB4 := hid (HB0.out.trans (pw.h.mono (by simp)))
      clear t0 t1
      go_wp2
      go_ret
      exact ⟨says_f HN.out, HB4.out⟩
  · clear b1 b2 b3 b4 b5 b6 b8 b9 b10 b11 b12 HE
    have hbk : (builtKids 7 : Nat) = 2 := by decide
    rw [hbk] at HK
    clear hbk
    have t0 := fun p : Gr (w.alloc (.cells #[.int .i64 8, .int .i64 7, .int .i64 ty, .int .i64 n, .string t, .int .i64 kids] 63)) => (p.h.cell (p := ⟨w.heap.size, 1, none⟩) (by simp)).trans (show World.cell? (w.alloc (.cells #[.int .i64 8, .int .i64 7, .int .i64 ty, .int .i64 n, .string t, .int .i64 kids] 63)) ⟨w.heap.size, 1, none⟩ = some (.int .i64 7) by rw [cell_new_row]; rfl)
    have t1 := fun p : Gr (w.alloc (.cells #[.int .i64 8, .int .i64 7, .int .i64 ty, .int .i64 n, .string t, .int .i64 kids] 63)) => (p.h.cell (p := ⟨1, 15, none⟩) (by rw [World.size_alloc]; exact hg0)).trans b7
    have hne : Nonempty (Gr (w.alloc (.cells #[.int .i64 8, .int .i64 7, .int .i64 ty, .int .i64 n, .string t, .int .i64 kids] 63))) := ⟨⟨_, Below.refl _ _⟩⟩
    clear b7
    by_cases hP : ((2 : Int) ≤ m ∧ (m : Int) ≤ 2 ∧ AllE m st)
    · have HP := hid hP
      have HY := hid (HK.out.2 ⟨by omega, hP.2.2⟩)
      clear hP
      go_enter Tryz.func28, Tryz.ntmps28
      go_wp2
      refine wp_region_gr (by kernel_rfl) (by kernel_rfl) ?_
      repeat (go_big_quiet_step (first | (go_at_call 51; refine Calls.gr_of (v := .bool true) fun hbp => ?_; refine (areE_any ad m c 2 2 st sh _ hm (HS.out.below hbp)).mono ?_; rintro e w3 ⟨hs3, hb3⟩; exact ⟨hs3.pos HP.out, hb3⟩)))
      refine wpQuiet_nil ?_
      intro _ hw'
      obtain ⟨pw, rfl⟩ := hw'
      have HB4 := hid (HB0.out.trans (pw.h.mono (by simp)))
      clear t0 t1
      go_wp2
      go_ret
      exact ⟨says_t HY.out, HB4.out⟩
    · have HP := hid hP
      have HN : Hid (¬ KidsOk ⟨8, 7, ty, n, t, kids⟩ m st) := fun h => hP ⟨by have := (HK.out.1 h).1; omega, by have := (HK.out.1 h).1; omega, (HK.out.1 h).2⟩
      clear hP
      go_enter Tryz.func28, Tryz.ntmps28
      go_wp2
      refine wp_region_gr (by kernel_rfl) (by kernel_rfl) ?_
      repeat (go_big_quiet_step (first | (go_at_call 51; refine Calls.gr_of (v := .bool false) fun hbp => ?_; refine (areE_any ad m c 2 2 st sh _ hm (HS.out.below hbp)).mono ?_; rintro e w3 ⟨hs3, hb3⟩; exact ⟨hs3.neg HP.out, hb3⟩)))
      refine wpQuiet_nil ?_
      intro _ hw'
      obtain ⟨pw, rfl⟩ := hw'
      have HB4 := hid (HB0.out.trans (pw.h.mono (by simp)))
      clear t0 t1
      go_wp2
      go_ret
      exact ⟨says_f HN.out, HB4.out⟩
  · clear b1 b2 b3 b4 b5 b6 b7 b9 b10 b11 b12 HE
    have hbk : (builtKids 8 : Nat) = 3 := by decide
    rw [hbk] at HK
    clear hbk
    have t0 := fun p : Gr (w.alloc (.cells #[.int .i64 8, .int .i64 8, .int .i64 ty, .int .i64 n, .string t, .int .i64 kids] 63)) => (p.h.cell (p := ⟨w.heap.size, 1, none⟩) (by simp)).trans (show World.cell? (w.alloc (.cells #[.int .i64 8, .int .i64 8, .int .i64 ty, .int .i64 n, .string t, .int .i64 kids] 63)) ⟨w.heap.size, 1, none⟩ = some (.int .i64 8) by rw [cell_new_row]; rfl)
    have t1 := fun p : Gr (w.alloc (.cells #[.int .i64 8, .int .i64 8, .int .i64 ty, .int .i64 n, .string t, .int .i64 kids] 63)) => (p.h.cell (p := ⟨1, 17, none⟩) (by rw [World.size_alloc]; exact hg0)).trans b8
    have hne : Nonempty (Gr (w.alloc (.cells #[.int .i64 8, .int .i64 8, .int .i64 ty, .int .i64 n, .string t, .int .i64 kids] 63))) := ⟨⟨_, Below.refl _ _⟩⟩
    clear b8
    by_cases hP : ((3 : Int) ≤ m ∧ (m : Int) ≤ 3 ∧ AllE m st)
    · have HP := hid hP
      have HY := hid (HK.out.2 ⟨by omega, hP.2.2⟩)
      clear hP
      go_enter Tryz.func28, Tryz.ntmps28
      go_wp2
      refine wp_region_gr (by kernel_rfl) (by kernel_rfl) ?_
      repeat (go_big_quiet_step (first | (go_at_call 51; refine Calls.gr_of (v := .bool true) fun hbp => ?_; refine (areE_any ad m c 3 3 st sh _ hm (HS.out.below hbp)).mono ?_; rintro e w3 ⟨hs3, hb3⟩; exact ⟨hs3.pos HP.out, hb3⟩)))
      refine wpQuiet_nil ?_
      intro _ hw'
      obtain ⟨pw, rfl⟩ := hw'
      have HB4 := hid (HB0.out.trans (pw.h.mono (by simp)))
      clear t0 t1
      go_wp2
      go_ret
      exact ⟨says_t HY.out, HB4.out⟩
    · have HP := hid hP
      have HN : Hid (¬ KidsOk ⟨8, 8, ty, n, t, kids⟩ m st) := fun h => hP ⟨by have := (HK.out.1 h).1; omega, by have := (HK.out.1 h).1; omega, (HK.out.1 h).2⟩
      clear hP
      go_enter Tryz.func28, Tryz.ntmps28
      go_wp2
      refine wp_region_gr (by kernel_rfl) (by kernel_rfl) ?_
      repeat (go_big_quiet_step (first | (go_at_call 51; refine Calls.gr_of (v := .bool false) fun hbp => ?_; refine (areE_any ad m c 3 3 st sh _ hm (HS.out.below hbp)).mono ?_; rintro e w3 ⟨hs3, hb3⟩; exact ⟨hs3.neg HP.out, hb3⟩)))
      refine wpQuiet_nil ?_
      intro _ hw'
      obtain ⟨pw, rfl⟩ := hw'
      have HB4 := hid (HB0.out.trans (pw.h.mono (by simp)))
      clear t0 t1
      go_wp2
      go_ret
      exact ⟨says_f HN.out, HB4.out⟩
  · clear b1 b2 b3 b4 b5 b6 b7 b8 b10 b11 b12 HE
    have hbk : (builtKids 9 : Nat) = 2 := by decide
    rw [hbk] at HK
    clear hbk
    have t0 := fun p : Gr (w.alloc (.cells #[.int .i64 8, .int .i64 9, .int .i64 ty, .int .i64 n, .string t, .int .i64 kids] 63)) => (p.h.cell (p := ⟨w.heap.size, 1, none⟩) (by simp)).trans (show World.cell? (w.alloc (.cells #[.int .i64 8, .int .i64 9, .int .i64 ty, .int .i64 n, .string t, .int .i64 kids] 63)) ⟨w.heap.size, 1, none⟩ = some (.int .i64 9) by rw [cell_new_row]; rfl)
    have t1 := fun p : Gr (w.alloc (.cells #[.int .i64 8, .int .i64 9, .int .i64 ty, .int .i64 n, .string t, .int .i64 kids] 63)) => (p.h.cell (p := ⟨1, 19, none⟩) (by rw [World.size_alloc]; exact hg0)).trans b9
    have hne : Nonempty (Gr (w.alloc (.cells #[.int .i64 8, .int .i64 9, .int .i64 ty, .int .i64 n, .string t, .int .i64 kids] 63))) := ⟨⟨_, Below.refl _ _⟩⟩
    clear b9
    by_cases hP : ((2 : Int) ≤ m ∧ (m : Int) ≤ 2 ∧ AllE m st)
    · have HP := hid hP
      have HY := hid (HK.out.2 ⟨by omega, hP.2.2⟩)
      clear hP
      go_enter Tryz.func28, Tryz.ntmps28
      go_wp2
      refine wp_region_gr (by kernel_rfl) (by kernel_rfl) ?_
      repeat (go_big_quiet_step (first | (go_at_call 51; refine Calls.gr_of (v := .bool true) fun hbp => ?_; refine (areE_any ad m c 2 2 st sh _ hm (HS.out.below hbp)).mono ?_; rintro e w3 ⟨hs3, hb3⟩; exact ⟨hs3.pos HP.out, hb3⟩)))
      refine wpQuiet_nil ?_
      intro _ hw'
      obtain ⟨pw, rfl⟩ := hw'
      have HB4 := hid (HB0.out.trans (pw.h.mono (by simp)))
      clear t0 t1
      go_wp2
      go_ret
      exact ⟨says_t HY.out, HB4.out⟩
    · have HP := hid hP
      have HN : Hid (¬ KidsOk ⟨8, 9, ty, n, t, kids⟩ m st) := fun h => hP ⟨by have := (HK.out.1 h).1; omega, by have := (HK.out.1 h).1; omega, (HK.out.1 h).2⟩
      clear hP
      go_enter Tryz.func28, Tryz.ntmps28
      go_wp2
      refine wp_region_gr (by kernel_rfl) (by kernel_rfl) ?_
      repeat (go_big_quiet_step (first | (go_at_call 51; refine Calls.gr_of (v := .bool false) fun hbp => ?_; refine (areE_any ad m c 2 2 st sh _ hm (HS.out.below hbp)).mono ?_; rintro e w3 ⟨hs3, hb3⟩; exact ⟨hs3.neg HP.out, hb3⟩)))
      refine wpQuiet_nil ?_
      intro _ hw'
      obtain ⟨pw, rfl⟩ := hw'
      have HB4 := hid (HB0.out.trans (pw.h.mono (by simp)))
      clear t0 t1
      go_wp2
      go_ret
      exact ⟨says_f HN.out, HB4.out⟩
  · clear b1 b2 b3 b4 b5 b6 b7 b8 b9 b11 b12 HE
    have hbk : (builtKids 10 : Nat) = 1 := by decide
    rw [hbk] at HK
    clear hbk
    have t0 := fun p : Gr (w.alloc (.cells #[.int .i64 8, .int .i64 10, .int .i64 ty, .int .i64 n, .string t, .int .i64 kids] 63)) => (p.h.cell (p := ⟨w.heap.size, 1, none⟩) (by simp)).trans (show World.cell? (w.alloc (.cells #[.int .i64 8, .int .i64 10, .int .i64 ty, .int .i64 n, .string t, .int .i64 kids] 63)) ⟨w.heap.size, 1, none⟩ = some (.int .i64 10) by rw [cell_new_row]; rfl)
    have t1 := fun p : Gr (w.alloc (.cells #[.int .i64 8, .int .i64 10, .int .i64 ty, .int .i64 n, .string t, .int .i64 kids] 63)) => (p.h.cell (p := ⟨1, 21, none⟩) (by rw [World.size_alloc]; exact hg0)).trans b10
    have hne : Nonempty (Gr (w.alloc (.cells #[.int .i64 8, .int .i64 10, .int .i64 ty, .int .i64 n, .string t, .int .i64 kids] 63))) := ⟨⟨_, Below.refl _ _⟩⟩
    clear b10
    by_cases hP : ((1 : Int) ≤ m ∧ (m : Int) ≤ 1 ∧ AllE m st)
    · have HP := hid hP
      have HY := hid (HK.out.2 ⟨by omega, hP.2.2⟩)
      clear hP
      go_enter Tryz.func28, Tryz.ntmps28
      go_wp2
      refine wp_region_gr (by kernel_rfl) (by kernel_rfl) ?_
      repeat (go_big_quiet_step (first | (go_at_call 51; refine Calls.gr_of (v := .bool true) fun hbp => ?_; refine (areE_any ad m c 1 1 st sh _ hm (HS.out.below hbp)).mono ?_; rintro e w3 ⟨hs3, hb3⟩; exact ⟨hs3.pos HP.out, hb3⟩)))
      refine wpQuiet_nil ?_
      intro _ hw'
      obtain ⟨pw, rfl⟩ := hw'
      have HB4 := hid (HB0.out.trans (pw.h.mono (by simp)))
      clear t0 t1
      go_wp2
      go_ret
      exact ⟨says_t HY.out, HB4.out⟩
    · have HP := hid hP
      have HN : Hid (¬ KidsOk ⟨8, 10, ty, n, t, kids⟩ m st) := fun h => hP ⟨by have := (HK.out.1 h).1; omega, by have := (HK.out.1 h).1; omega, (HK.out.1 h).2⟩
      clear hP
      go_enter Tryz.func28, Tryz.ntmps28
      go_wp2
      refine wp_region_gr (by kernel_rfl) (by kernel_rfl) ?_
      repeat (go_big_quiet_step (first | (go_at_call 51; refine Calls.gr_of (v := .bool false) fun hbp => ?_; refine (areE_any ad m c 1 1 st sh _ hm (HS.out.below hbp)).mono ?_; rintro e w3 ⟨hs3, hb3⟩; exact ⟨hs3.neg HP.out, hb3⟩)))
      refine wpQuiet_nil ?_
      intro _ hw'
      obtain ⟨pw, rfl⟩ := hw'
      have HB4 := hid (HB0.out.trans (pw.h.mono (by simp)))
      clear t0 t1
      go_wp2
      go_ret
      exact ⟨says_f HN.out, HB4.out⟩
  · clear b1 b2 b3 b4 b5 b6 b7 b8 b9 b10 b12 HE
    have hbk : (builtKids 11 : Nat) = 1 := by decide
    rw [hbk] at HK
    clear hbk
    have t0 := fun p : Gr (w.alloc (.cells #[.int .i64 8, .int .i64 11, .int .i64 ty, .int .i64 n, .string t, .int .i64 kids] 63)) => (p.h.cell (p := ⟨w.heap.size, 1, none⟩) (by simp)).trans (show World.cell? (w.alloc (.cells #[.int .i64 8, .int .i64 11, .int .i64 ty, .int .i64 n, .string t, .int .i64 kids] 63)) ⟨w.heap.size, 1, none⟩ = some (.int .i64 11) by rw [cell_new_row]; rfl)
    have t1 := fun p : Gr (w.alloc (.cells #[.int .i64 8, .int .i64 11, .int .i64 ty, .int .i64 n, .string t, .int .i64 kids] 63)) => (p.h.cell (p := ⟨1, 23, none⟩) (by rw [World.size_alloc]; exact hg0)).trans b11
    have hne : Nonempty (Gr (w.alloc (.cells #[.int .i64 8, .int .i64 11, .int .i64 ty, .int .i64 n, .string t, .int .i64 kids] 63))) := ⟨⟨_, Below.refl _ _⟩⟩
    clear b11
    by_cases hP : ((1 : Int) ≤ m ∧ (m : Int) ≤ 1 ∧ AllE m st)
    · have HP := hid hP
      have HY := hid (HK.out.2 ⟨by omega, hP.2.2⟩)
      clear hP
      go_enter Tryz.func28, Tryz.ntmps28
      go_wp2
      refine wp_region_gr (by kernel_rfl) (by kernel_rfl) ?_
      repeat (go_big_quiet_step (first | (go_at_call 51; refine Calls.gr_of (v := .bool true) fun hbp => ?_; refine (areE_any ad m c 1 1 st sh _ hm (HS.out.below hbp)).mono ?_; rintro e w3 ⟨hs3, hb3⟩; exact ⟨hs3.pos HP.out, hb3⟩)))
      refine wpQuiet_nil ?_
      intro _ hw'
      obtain ⟨pw, rfl⟩ := hw'
      have HB4 := hid (HB0.out.trans (pw.h.mono (by simp)))
      clear t0 t1
      go_wp2
      go_ret
      exact ⟨says_t HY.out, HB4.out⟩
    · have HP := hid hP
      have HN : Hid (¬ KidsOk ⟨8, 11, ty, n, t, kids⟩ m st) := fun h => hP ⟨by have := (HK.out.1 h).1; omega, by have := (HK.out.1 h).1; omega, (HK.out.1 h).2⟩
      clear hP
      go_enter Tryz.func28, Tryz.ntmps28
      go_wp2
      refine wp_region_gr (by kernel_rfl) (by kernel_rfl) ?_
      repeat (go_big_quiet_step (first | (go_at_call 51; refine Calls.gr_of (v := .bool false) fun hbp => ?_; refine (areE_any ad m c 1 1 st sh _ hm (HS.out.below hbp)).mono ?_; rintro e w3 ⟨hs3, hb3⟩; exact ⟨hs3.neg HP.out, hb3⟩)))
      refine wpQuiet_nil ?_
      intro _ hw'
      obtain ⟨pw, rfl⟩ := hw'
      have HB4 := hid (HB0.out.trans (pw.h.mono (by simp)))
      clear t0 t1
      go_wp2
      go_ret
      exact ⟨says_f HN.out, HB4.out⟩
  · clear b1 b2 b3 b4 b5 b6 b7 b8 b9 b10 b11 HE
    have hbk : (builtKids 12 : Nat) = 1 := by decide
    rw [hbk] at HK
    clear hbk
    have t0 := fun p : Gr (w.alloc (.cells #[.int .i64 8, .int .i64 12, .int .i64 ty, .int .i64 n, .string t, .int .i64 kids] 63)) => (p.h.cell (p := ⟨w.heap.size, 1, none⟩) (by simp)).trans (show World.cell? (w.alloc (.cells #[.int .i64 8, .int .i64 12, .int .i64 ty, .int .i64 n, .string t, .int .i64 kids] 63)) ⟨w.heap.size, 1, none⟩ = some (.int .i64 12) by rw [cell_new_row]; rfl)
    have t1 := fun p : Gr (w.alloc (.cells #[.int .i64 8, .int .i64 12, .int .i64 ty, .int .i64 n, .string t, .int .i64 kids] 63)) => (p.h.cell (p := ⟨1, 25, none⟩) (by rw [World.size_alloc]; exact hg0)).trans b12
    have hne : Nonempty (Gr (w.alloc (.cells #[.int .i64 8, .int .i64 12, .int .i64 ty, .int .i64 n, .string t, .int .i64 kids] 63))) := ⟨⟨_, Below.refl _ _⟩⟩
    clear b12
    by_cases hP : ((1 : Int) ≤ m ∧ (m : Int) ≤ 1 ∧ AllE m st)
    · have HP := hid hP
      have HY := hid (HK.out.2 ⟨by omega, hP.2.2⟩)
      clear hP
      go_enter Tryz.func28, Tryz.ntmps28
      go_wp2
      refine wp_region_gr (by kernel_rfl) (by kernel_rfl) ?_
      repeat (go_big_quiet_step (first | (go_at_call 51; refine Calls.gr_of (v := .bool true) fun hbp => ?_; refine (areE_any ad m c 1 1 st sh _ hm (HS.out.below hbp)).mono ?_; rintro e w3 ⟨hs3, hb3⟩; exact ⟨hs3.pos HP.out, hb3⟩)))
      refine wpQuiet_nil ?_
      intro _ hw'
      obtain ⟨pw, rfl⟩ := hw'
      have HB4 := hid (HB0.out.trans (pw.h.mono (by simp)))
      clear t0 t1
      go_wp2
      go_ret
      exact ⟨says_t HY.out, HB4.out⟩
    · have HP := hid hP
      have HN : Hid (¬ KidsOk ⟨8, 12, ty, n, t, kids⟩ m st) := fun h => hP ⟨by have := (HK.out.1 h).1; omega, by have := (HK.out.1 h).1; omega, (HK.out.1 h).2⟩
      clear hP
      go_enter Tryz.func28, Tryz.ntmps28
      go_wp2
      refine wp_region_gr (by kernel_rfl) (by kernel_rfl) ?_
      repeat (go_big_quiet_step (first | (go_at_call 51; refine Calls.gr_of (v := .bool false) fun hbp => ?_; refine (areE_any ad m c 1 1 st sh _ hm (HS.out.below hbp)).mono ?_; rintro e w3 ⟨hs3, hb3⟩; exact ⟨hs3.neg HP.out, hb3⟩)))
      refine wpQuiet_nil ?_
      intro _ hw'
      obtain ⟨pw, rfl⟩ := hw'
      have HB4 := hid (HB0.out.trans (pw.h.mono (by simp)))
      clear t0 t1
      go_wp2
      go_ret
      exact ⟨says_f HN.out, HB4.out⟩
end Go.Proofs.YtkngjbpbjjoneaaGreatDoor.Q
