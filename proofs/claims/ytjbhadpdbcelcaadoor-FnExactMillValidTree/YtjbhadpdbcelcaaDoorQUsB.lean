import Derived.Test.YtjbhadpdbcelcaaDoorQUsU
/-! Printed by gen_fld.py. -/
namespace Go.Proofs.YtjbhadpdbcelcaaDoor.Q
open Go.RowKit Go.Shelf
set_option maxRecDepth 20000
set_option maxHeartbeats 8000000 in
theorem us_2 : UF 2 := by
  intro op ty n kids t r w ht hr
  clear ht hr
  unfold ndV
  go_enter Tryd.func15, Tryd.ntmps15
  go_wp2
  all_goals go_ret
  all_goals first
    | (refine ⟨says_t ?_, below_two _ _ _⟩; rw [plain_2]; simp [*]; done)
    | (refine ⟨says_f ?_, below_two _ _ _⟩; rw [plain_2]; simp [*]; done)
    | (refine ⟨says_t ?_, below_two _ _ _⟩; rw [plain_2]; (try simp [*]); omega)
    | (refine ⟨says_f ?_, below_two _ _ _⟩; rw [plain_2]; (try simp [*]); (try intros); omega)
set_option maxHeartbeats 8000000 in
theorem us_3 : UF 3 := by
  intro op ty n kids t r w ht hr
  clear ht hr
  unfold ndV
  go_enter Tryd.func15, Tryd.ntmps15
  go_wp2
  all_goals go_ret
  all_goals first
    | (refine ⟨says_t ?_, below_two _ _ _⟩; rw [plain_3]; simp [*]; done)
    | (refine ⟨says_f ?_, below_two _ _ _⟩; rw [plain_3]; simp [*]; done)
    | (refine ⟨says_t ?_, below_two _ _ _⟩; rw [plain_3]; (try simp [*]); omega)
    | (refine ⟨says_f ?_, below_two _ _ _⟩; rw [plain_3]; (try simp [*]); (try intros); omega)
set_option maxHeartbeats 8000000 in
theorem us_5 : UF 5 := by
  intro op ty n kids t r w ht hr
  clear ht hr
  unfold ndV
  go_enter Tryd.func15, Tryd.ntmps15
  go_wp2
  all_goals go_ret
  all_goals first
    | (refine ⟨says_t ?_, below_two _ _ _⟩; rw [plain_5]; simp [*]; done)
    | (refine ⟨says_f ?_, below_two _ _ _⟩; rw [plain_5]; simp [*]; done)
    | (refine ⟨says_t ?_, below_two _ _ _⟩; rw [plain_5]; (try simp [*]); omega)
    | (refine ⟨says_f ?_, below_two _ _ _⟩; rw [plain_5]; (try simp [*]); (try intros); omega)
set_option maxHeartbeats 8000000 in
theorem us_6 : UF 6 := by
  intro op ty n kids t r w ht hr
  clear ht hr
  unfold ndV
  go_enter Tryd.func15, Tryd.ntmps15
  go_wp2
  all_goals go_ret
  all_goals first
    | (refine ⟨says_t ?_, below_two _ _ _⟩; rw [plain_6]; simp [*]; done)
    | (refine ⟨says_f ?_, below_two _ _ _⟩; rw [plain_6]; simp [*]; done)
    | (refine ⟨says_t ?_, below_two _ _ _⟩; rw [plain_6]; (try simp [*]); omega)
    | (refine ⟨says_f ?_, below_two _ _ _⟩; rw [plain_6]; (try simp [*]); (try intros); omega)
set_option maxHeartbeats 8000000 in
theorem us_8 : UF 8 := by
  intro op ty n kids t r w ht hr
  clear ht hr
  unfold ndV
  go_enter Tryd.func15, Tryd.ntmps15
  go_wp2
  all_goals go_ret
  all_goals first
    | (refine ⟨says_t ?_, below_two _ _ _⟩; rw [plain_8]; simp [*]; done)
    | (refine ⟨says_f ?_, below_two _ _ _⟩; rw [plain_8]; simp [*]; done)
    | (refine ⟨says_t ?_, below_two _ _ _⟩; rw [plain_8]; (try simp [*]); omega)
    | (refine ⟨says_f ?_, below_two _ _ _⟩; rw [plain_8]; (try simp [*]); (try intros); omega)
set_option maxHeartbeats 8000000 in
theorem us_9 : UF 9 := by
  intro op ty n kids t r w ht hr
  clear ht hr
  unfold ndV
  go_enter Tryd.func15, Tryd.ntmps15
  go_wp2_with (first
    | (go_at_call 32; refine (millIsInteger_int ty _).mono ?_; rintro e w' ⟨rfl, hw⟩; have hw2 := hw.symm; clear hw; subst hw2))
  all_goals go_ret
  all_goals first
    | (refine ⟨says_t ?_, below_two _ _ _⟩; rw [plain_9]; simp [*]; done)
    | (refine ⟨says_f ?_, below_two _ _ _⟩; rw [plain_9]; simp [*]; done)
    | (refine ⟨says_t ?_, below_two _ _ _⟩; rw [plain_9]; (try simp [*]); omega)
    | (refine ⟨says_f ?_, below_two _ _ _⟩; rw [plain_9]; (try simp [*]); (try intros); omega)
end Go.Proofs.YtjbhadpdbcelcaaDoor.Q
