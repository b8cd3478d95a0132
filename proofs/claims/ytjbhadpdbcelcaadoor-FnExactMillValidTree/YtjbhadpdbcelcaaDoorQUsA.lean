import Derived.Test.YtjbhadpdbcelcaaDoorQUsU
/-! Printed by gen_fld.py. -/
namespace Go.Proofs.YtjbhadpdbcelcaaDoor.Q
open Go.RowKit Go.Shelf
set_option maxRecDepth 20000
set_option maxHeartbeats 8000000 in
theorem us_12 : UF 12 := by
  intro op ty n kids t r w ht hr
  clear ht hr
  unfold ndV
  go_enter Tryd.func15, Tryd.ntmps15
  go_wp2
  all_goals go_ret
  all_goals first
    | (refine ⟨says_t ?_, below_two _ _ _⟩; rw [plain_12]; simp [*]; done)
    | (refine ⟨says_f ?_, below_two _ _ _⟩; rw [plain_12]; simp [*]; done)
    | (refine ⟨says_t ?_, below_two _ _ _⟩; rw [plain_12]; (try simp [*]); omega)
    | (refine ⟨says_f ?_, below_two _ _ _⟩; rw [plain_12]; (try simp [*]); (try intros); omega)
set_option maxHeartbeats 8000000 in
theorem us_13 : UF 13 := by
  intro op ty n kids t r w ht hr
  clear ht hr
  unfold ndV
  go_enter Tryd.func15, Tryd.ntmps15
  go_wp2
  all_goals go_ret
  all_goals first
    | (refine ⟨says_t ?_, below_two _ _ _⟩; rw [plain_13]; simp [*]; done)
    | (refine ⟨says_f ?_, below_two _ _ _⟩; rw [plain_13]; simp [*]; done)
    | (refine ⟨says_t ?_, below_two _ _ _⟩; rw [plain_13]; (try simp [*]); omega)
    | (refine ⟨says_f ?_, below_two _ _ _⟩; rw [plain_13]; (try simp [*]); (try intros); omega)
set_option maxHeartbeats 8000000 in
theorem us_14 : UF 14 := by
  intro op ty n kids t r w ht hr
  clear ht hr
  unfold ndV
  go_enter Tryd.func15, Tryd.ntmps15
  go_wp2
  all_goals go_ret
  all_goals first
    | (refine ⟨says_t ?_, below_two _ _ _⟩; rw [plain_14]; simp [*]; done)
    | (refine ⟨says_f ?_, below_two _ _ _⟩; rw [plain_14]; simp [*]; done)
    | (refine ⟨says_t ?_, below_two _ _ _⟩; rw [plain_14]; (try simp [*]); omega)
    | (refine ⟨says_f ?_, below_two _ _ _⟩; rw [plain_14]; (try simp [*]); (try intros); omega)
set_option maxHeartbeats 8000000 in
theorem us_15 : UF 15 := by
  intro op ty n kids t r w ht hr
  clear ht hr
  unfold ndV
  go_enter Tryd.func15, Tryd.ntmps15
  go_wp2
  all_goals go_ret
  all_goals first
    | (refine ⟨says_t ?_, below_two _ _ _⟩; rw [plain_15]; simp [*]; done)
    | (refine ⟨says_f ?_, below_two _ _ _⟩; rw [plain_15]; simp [*]; done)
    | (refine ⟨says_t ?_, below_two _ _ _⟩; rw [plain_15]; (try simp [*]); omega)
    | (refine ⟨says_f ?_, below_two _ _ _⟩; rw [plain_15]; (try simp [*]); (try intros); omega)
set_option maxHeartbeats 8000000 in
theorem us_16 : UF 16 := by
  intro op ty n kids t r w ht hr
  clear ht hr
  unfold ndV
  go_enter Tryd.func15, Tryd.ntmps15
  go_wp2
  all_goals go_ret
  all_goals first
    | (refine ⟨says_t ?_, below_two _ _ _⟩; rw [plain_16]; simp [*]; done)
    | (refine ⟨says_f ?_, below_two _ _ _⟩; rw [plain_16]; simp [*]; done)
    | (refine ⟨says_t ?_, below_two _ _ _⟩; rw [plain_16]; (try simp [*]); omega)
    | (refine ⟨says_f ?_, below_two _ _ _⟩; rw [plain_16]; (try simp [*]); (try intros); omega)
set_option maxHeartbeats 8000000 in
theorem us_17 : UF 17 := by
  intro op ty n kids t r w ht hr
  clear ht hr
  unfold ndV
  go_enter Tryd.func15, Tryd.ntmps15
  go_wp2
  all_goals go_ret
  all_goals first
    | (refine ⟨says_t ?_, below_two _ _ _⟩; rw [plain_17]; simp [*]; done)
    | (refine ⟨says_f ?_, below_two _ _ _⟩; rw [plain_17]; simp [*]; done)
    | (refine ⟨says_t ?_, below_two _ _ _⟩; rw [plain_17]; (try simp [*]); omega)
    | (refine ⟨says_f ?_, below_two _ _ _⟩; rw [plain_17]; (try simp [*]); (try intros); omega)
set_option maxHeartbeats 8000000 in
theorem us_18 : UF 18 := by
  intro op ty n kids t r w ht hr
  clear ht hr
  unfold ndV
  go_enter Tryd.func15, Tryd.ntmps15
  go_wp2
  all_goals go_ret
  all_goals first
    | (refine ⟨says_t ?_, below_two _ _ _⟩; rw [plain_18]; simp [*]; done)
    | (refine ⟨says_f ?_, below_two _ _ _⟩; rw [plain_18]; simp [*]; done)
    | (refine ⟨says_t ?_, below_two _ _ _⟩; rw [plain_18]; (try simp [*]); omega)
    | (refine ⟨says_f ?_, below_two _ _ _⟩; rw [plain_18]; (try simp [*]); (try intros); omega)
set_option maxHeartbeats 8000000 in
theorem us_19 : UF 19 := by
  intro op ty n kids t r w ht hr
  clear ht hr
  unfold ndV
  go_enter Tryd.func15, Tryd.ntmps15
  go_wp2
  all_goals go_ret
  all_goals first
    | (refine ⟨says_t ?_, below_two _ _ _⟩; rw [plain_19]; simp [*]; done)
    | (refine ⟨says_f ?_, below_two _ _ _⟩; rw [plain_19]; simp [*]; done)
    | (refine ⟨says_t ?_, below_two _ _ _⟩; rw [plain_19]; (try simp [*]); omega)
    | (refine ⟨says_f ?_, below_two _ _ _⟩; rw [plain_19]; (try simp [*]); (try intros); omega)
set_option maxHeartbeats 8000000 in
theorem us_20 : UF 20 := by
  intro op ty n kids t r w ht hr
  clear ht hr
  unfold ndV
  go_enter Tryd.func15, Tryd.ntmps15
  go_wp2
  all_goals go_ret
  all_goals first
    | (refine ⟨says_t ?_, below_two _ _ _⟩; rw [plain_20]; simp [*]; done)
    | (refine ⟨says_f ?_, below_two _ _ _⟩; rw [plain_20]; simp [*]; done)
    | (refine ⟨says_t ?_, below_two _ _ _⟩; rw [plain_20]; (try simp [*]); omega)
    | (refine ⟨says_f ?_, below_two _ _ _⟩; rw [plain_20]; (try simp [*]); (try intros); omega)
set_option maxHeartbeats 8000000 in
theorem us_21 : UF 21 := by
  intro op ty n kids t r w ht hr
  clear ht hr
  unfold ndV
  go_enter Tryd.func15, Tryd.ntmps15
  go_wp2
  all_goals go_ret
  all_goals first
    | (refine ⟨says_t ?_, below_two _ _ _⟩; rw [plain_21]; simp [*]; done)
    | (refine ⟨says_f ?_, below_two _ _ _⟩; rw [plain_21]; simp [*]; done)
    | (refine ⟨says_t ?_, below_two _ _ _⟩; rw [plain_21]; (try simp [*]); omega)
    | (refine ⟨says_f ?_, below_two _ _ _⟩; rw [plain_21]; (try simp [*]); (try intros); omega)
set_option maxHeartbeats 8000000 in
theorem us_24 : UF 24 := by
  intro op ty n kids t r w ht hr
  clear ht hr
  unfold ndV
  go_enter Tryd.func15, Tryd.ntmps15
  go_wp2
  all_goals go_ret
  all_goals first
    | (refine ⟨says_t ?_, below_two _ _ _⟩; rw [plain_24]; simp [*]; done)
    | (refine ⟨says_f ?_, below_two _ _ _⟩; rw [plain_24]; simp [*]; done)
    | (refine ⟨says_t ?_, below_two _ _ _⟩; rw [plain_24]; (try simp [*]); omega)
    | (refine ⟨says_f ?_, below_two _ _ _⟩; rw [plain_24]; (try simp [*]); (try intros); omega)
end Go.Proofs.YtjbhadpdbcelcaaDoor.Q
