import Derived.Test.YtjbhadpdbcelcaaDoorQUsU
/-! Printed by gen_fld.py. -/
namespace Go.Proofs.YtjbhadpdbcelcaaDoor.Q
open Go.RowKit Go.Shelf
set_option maxRecDepth 20000
set_option maxHeartbeats 8000000 in
theorem us_4 : UF 4 := by
  intro op ty n kids t r w ht hr
  have hrl : r < w.heap.size := (Array.getElem?_eq_some_iff.1 hr).1
  have HR : Hid (∀ W, Below w.heap.size w W → W.heap[r]? = some (.map (mwE 35) 35)) := fun W hb => (hb.block r hrl).trans hr
  clear hr hrl
  unfold ndV
  go_enter Tryd.func15, Tryd.ntmps15
  go_wp2_with (first
    | (go_at_call 31; refine (isName_at t r _ ht (HR.out _ (below_two w _ _))).mono ?_; rintro e w1 ⟨hs, hb⟩; obtain ⟨⟨k0, k1, k2, k3, k4, k5⟩, ⟨l0, l1, l2, l3, l4, l5⟩, hb⟩ := two_rows hb; have HB := hid hb; clear hb; rcases hs.get with ⟨rfl, hP⟩ | ⟨rfl, hP⟩; all_goals (have HP := hid hP; clear hP hs)))
  all_goals go_ret
  all_goals have hp := HP.out
  all_goals first
    | (refine ⟨says_t ?_, HB.out⟩; rw [plain_4]; simp [*]; done)
    | (refine ⟨says_f ?_, HB.out⟩; rw [plain_4]; simp [*]; done)
    | (refine ⟨says_t ?_, HB.out⟩; rw [plain_4]; (try simp [*]); omega)
    | (refine ⟨says_f ?_, HB.out⟩; rw [plain_4]; (try simp [*]); (try intros); omega)
set_option maxHeartbeats 8000000 in
theorem us_7 : UF 7 := by
  intro op ty n kids t r w ht hr
  have hrl : r < w.heap.size := (Array.getElem?_eq_some_iff.1 hr).1
  have HR : Hid (∀ W, Below w.heap.size w W → W.heap[r]? = some (.map (mwE 35) 35)) := fun W hb => (hb.block r hrl).trans hr
  clear hr hrl
  unfold ndV
  go_enter Tryd.func15, Tryd.ntmps15
  go_wp2_with (first
    | (go_at_call 31; refine (isName_at t r _ ht (HR.out _ (below_two w _ _))).mono ?_; rintro e w1 ⟨hs, hb⟩; obtain ⟨⟨k0, k1, k2, k3, k4, k5⟩, ⟨l0, l1, l2, l3, l4, l5⟩, hb⟩ := two_rows hb; have HB := hid hb; clear hb; rcases hs.get with ⟨rfl, hP⟩ | ⟨rfl, hP⟩; all_goals (have HP := hid hP; clear hP hs)))
  all_goals go_ret
  all_goals have hp := HP.out
  all_goals first
    | (refine ⟨says_t ?_, HB.out⟩; rw [plain_7]; simp [*]; done)
    | (refine ⟨says_f ?_, HB.out⟩; rw [plain_7]; simp [*]; done)
    | (refine ⟨says_t ?_, HB.out⟩; rw [plain_7]; (try simp [*]); omega)
    | (refine ⟨says_f ?_, HB.out⟩; rw [plain_7]; (try simp [*]); (try intros); omega)
set_option maxHeartbeats 8000000 in
theorem us_10 : UF 10 := by
  intro op ty n kids t r w ht hr
  have hrl : r < w.heap.size := (Array.getElem?_eq_some_iff.1 hr).1
  have HR : Hid (∀ W, Below w.heap.size w W → W.heap[r]? = some (.map (mwE 35) 35)) := fun W hb => (hb.block r hrl).trans hr
  clear hr hrl
  unfold ndV
  go_enter Tryd.func15, Tryd.ntmps15
  go_wp2_with (first
    | (go_at_call 31; refine (isName_at t r _ ht (HR.out _ (below_two w _ _))).mono ?_; rintro e w1 ⟨hs, hb⟩; obtain ⟨⟨k0, k1, k2, k3, k4, k5⟩, ⟨l0, l1, l2, l3, l4, l5⟩, hb⟩ := two_rows hb; have HB := hid hb; clear hb; rcases hs.get with ⟨rfl, hP⟩ | ⟨rfl, hP⟩; all_goals (have HP := hid hP; clear hP hs)))
  all_goals go_ret
  all_goals have hp := HP.out
  all_goals first
    | (refine ⟨says_t ?_, HB.out⟩; rw [plain_10]; simp [*]; done)
    | (refine ⟨says_f ?_, HB.out⟩; rw [plain_10]; simp [*]; done)
    | (refine ⟨says_t ?_, HB.out⟩; rw [plain_10]; (try simp [*]); omega)
    | (refine ⟨says_f ?_, HB.out⟩; rw [plain_10]; (try simp [*]); (try intros); omega)
set_option maxHeartbeats 8000000 in
theorem us_11 : UF 11 := by
  intro op ty n kids t r w ht hr
  have hrl : r < w.heap.size := (Array.getElem?_eq_some_iff.1 hr).1
  have HR : Hid (∀ W, Below w.heap.size w W → W.heap[r]? = some (.map (mwE 35) 35)) := fun W hb => (hb.block r hrl).trans hr
  clear hr hrl
  unfold ndV
  go_enter Tryd.func15, Tryd.ntmps15
  go_wp2_with (first
    | (go_at_call 31; refine (isName_at t r _ ht (HR.out _ (below_two w _ _))).mono ?_; rintro e w1 ⟨hs, hb⟩; obtain ⟨⟨k0, k1, k2, k3, k4, k5⟩, ⟨l0, l1, l2, l3, l4, l5⟩, hb⟩ := two_rows hb; have HB := hid hb; clear hb; rcases hs.get with ⟨rfl, hP⟩ | ⟨rfl, hP⟩; all_goals (have HP := hid hP; clear hP hs)))
  all_goals go_ret
  all_goals have hp := HP.out
  all_goals first
    | (refine ⟨says_t ?_, HB.out⟩; rw [plain_11]; simp [*]; done)
    | (refine ⟨says_f ?_, HB.out⟩; rw [plain_11]; simp [*]; done)
    | (refine ⟨says_t ?_, HB.out⟩; rw [plain_11]; (try simp [*]); omega)
    | (refine ⟨says_f ?_, HB.out⟩; rw [plain_11]; (try simp [*]); (try intros); omega)
set_option maxHeartbeats 8000000 in
theorem us_22 : UF 22 := by
  intro op ty n kids t r w ht hr
  have hrl : r < w.heap.size := (Array.getElem?_eq_some_iff.1 hr).1
  have HR : Hid (∀ W, Below w.heap.size w W → W.heap[r]? = some (.map (mwE 35) 35)) := fun W hb => (hb.block r hrl).trans hr
  clear hr hrl
  unfold ndV
  go_enter Tryd.func15, Tryd.ntmps15
  go_wp2
  go_region
  go_wp2_with (first
    | (go_at_call 31; refine (isName_at t r _ ht (HR.out _ (below_two w _ _).drew)).mono ?_; rintro e w1 ⟨hs, hb⟩; obtain ⟨⟨k0, k1, k2, k3, k4, k5⟩, ⟨l0, l1, l2, l3, l4, l5⟩, hb⟩ := two_rows ((Below.refl _ _).drew.trans hb); have HB := hid hb; clear hb; rcases hs.get with ⟨rfl, hP⟩ | ⟨rfl, hP⟩; all_goals (have HP := hid hP; clear hP hs))
    | (go_at_call 33; refine (millIsType_int ty _).mono ?_; rintro e w' ⟨rfl, hw⟩; have hw2 := hw.symm; clear hw; subst hw2))
  all_goals go_ret
  all_goals have hp := HP.out
  all_goals first
    | (refine ⟨says_t ?_, HB.out⟩; rw [plain_22]; simp [*]; done)
    | (refine ⟨says_f ?_, HB.out⟩; rw [plain_22]; simp [*]; done)
    | (refine ⟨says_t ?_, HB.out⟩; rw [plain_22]; (try simp [*]); omega)
    | (refine ⟨says_f ?_, HB.out⟩; rw [plain_22]; (try simp [*]); (try intros); omega)
set_option maxHeartbeats 8000000 in
theorem us_23 : UF 23 := by
  intro op ty n kids t r w ht hr
  have hrl : r < w.heap.size := (Array.getElem?_eq_some_iff.1 hr).1
  have HR : Hid (∀ W, Below w.heap.size w W → W.heap[r]? = some (.map (mwE 35) 35)) := fun W hb => (hb.block r hrl).trans hr
  clear hr hrl
  unfold ndV
  obtain rfl | hne : ty = 0 ∨ (ty == 0) = false := by
    by_cases h : ty = 0
    · exact .inl h
    · exact .inr (by rw [beq_eq_false_iff_ne]; exact h)
  all_goals  go_enter Tryd.func15, Tryd.ntmps15
  all_goals go_wp2
  all_goals go_region
  all_goals go_wp2_with (first
    | (go_at_call 31; refine (isName_at t r _ ht (HR.out _ (below_two w _ _).drew)).mono ?_; rintro e w1 ⟨hs, hb⟩; obtain ⟨⟨k0, k1, k2, k3, k4, k5⟩, ⟨l0, l1, l2, l3, l4, l5⟩, hb⟩ := two_rows ((Below.refl _ _).drew.trans hb); have HB := hid hb; clear hb; rcases hs.get with ⟨rfl, hP⟩ | ⟨rfl, hP⟩; all_goals (have HP := hid hP; clear hP hs))
    | (go_at_call 33; refine (millIsType_nz ty hne _).mono ?_; rintro e w' ⟨rfl, hw⟩; have hw2 := hw.symm; clear hw; subst hw2))
  all_goals go_ret
  all_goals have hp := HP.out
  all_goals first
    | (refine ⟨says_t ?_, HB.out⟩; rw [plain_23]; simp [*]; done)
    | (refine ⟨says_f ?_, HB.out⟩; rw [plain_23]; simp [*]; done)
    | (refine ⟨says_t ?_, HB.out⟩; rw [plain_23]; (try simp [*]); omega)
    | (refine ⟨says_f ?_, HB.out⟩; rw [plain_23]; (try simp [*]); (try intros); omega)
end Go.Proofs.YtjbhadpdbcelcaaDoor.Q
