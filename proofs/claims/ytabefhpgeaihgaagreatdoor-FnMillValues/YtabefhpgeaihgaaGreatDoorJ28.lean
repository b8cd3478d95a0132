import Derived.Test.YtabefhpgeaihgaaGreatDoorJ16
import Derived.Test.YtabefhpgeaihgaaGreatDoorJ19
import Derived.Test.YtabefhpgeaihgaaGreatDoorJ03
/-! What the program has for two values: types, bools, texts. -/
namespace Go.Proofs.YtabefhpgeaihgaaGreatDoor.V
open Go.RowKit Go.Shelf
set_option maxRecDepth 20000
set_option maxHeartbeats 8000000 in
theorem binGives_same (op a : Int) (o1 : 1 ≤ op) (o2 : op ≤ 18) (h1 : 1 ≤ a) (h2 : a ≤ 10) (w : World) :
    Calls Tryz.prog 28 #[.int .i64 op, .int .i64 a, .int .i64 a] w fun e w' => e = .returned (.int .i64 (binT op a a)) ∧ Below w.heap.size w w' := by
  have e1 : (a != a) = false := by simp
  rcases typ3 h1 h2 with rfl | rfl | ⟨h3, h4⟩
  · obtain rfl | rfl | rfl | rfl | rfl | rfl | rfl | rfl | rfl | rfl | rfl | rfl | rfl | rfl | rfl | rfl | rfl | rfl := op18 o1 o2
    all_goals clear h1 h2 o1 o2
    all_goals go_enter Tryz.func28, Tryz.ntmps28
    all_goals go_wp2_with (first | (go_at_call 21; refine (millIsInteger_f 1 (by decide) _).mono ?_; rintro e w' ⟨rfl, hw⟩; have hw2 := hw.symm; clear hw; subst hw2) | fail)
    all_goals try (go_quiet (fail); go_wp2)
    all_goals go_ret
    all_goals exact ⟨rfl, by first | exact Below.refl _ _ | exact drewN_below _ _⟩
  · obtain rfl | rfl | rfl | rfl | rfl | rfl | rfl | rfl | rfl | rfl | rfl | rfl | rfl | rfl | rfl | rfl | rfl | rfl := op18 o1 o2
    all_goals clear h1 h2 o1 o2
    all_goals go_enter Tryz.func28, Tryz.ntmps28
    all_goals go_wp2_with (first | (go_at_call 21; refine (millIsInteger_f 2 (by decide) _).mono ?_; rintro e w' ⟨rfl, hw⟩; have hw2 := hw.symm; clear hw; subst hw2) | fail)
    all_goals try (go_quiet (fail); go_wp2)
    all_goals go_ret
    all_goals exact ⟨rfl, by first | exact Below.refl _ _ | exact drewN_below _ _⟩
  · have n1 : ¬ a = 1 := by omega
    have n2 : ¬ a = 2 := by omega
    have n0 : (a != 0) = true := by simp; omega
    have HT : Hid (∀ op, binT op a a = if op = 1 ∨ op = 2 then 0 else if op ≤ 8 then 1 else a) := fun op => by
      unfold binT
      simp only [ne_eq, not_true_eq_false, if_false, n1, not_false_eq_true, if_true, h3]
      repeat' split
      all_goals first | rfl | omega
    obtain rfl | rfl | rfl | rfl | rfl | rfl | rfl | rfl | rfl | rfl | rfl | rfl | rfl | rfl | rfl | rfl | rfl | rfl := op18 o1 o2
    all_goals clear h1 h2 o1 o2
    all_goals go_enter Tryz.func28, Tryz.ntmps28
    all_goals go_wp2_with (first | (go_at_call 21; refine (millIsInteger_t a h3 h4 _).mono ?_; rintro e w' ⟨rfl, hw⟩; have hw2 := hw.symm; clear hw; subst hw2) | fail)
    all_goals try (go_quiet (fail); go_wp2)
    all_goals go_ret
    all_goals exact ⟨ret_int (by rw [HT.out]; rfl), by first | exact Below.refl _ _ | exact drewN_below _ _⟩
set_option maxHeartbeats 8000000 in
theorem binGives_other (op a b : Int) (o1 : 1 ≤ op) (o2 : op ≤ 18) (h1 : 1 ≤ a) (h2 : a ≤ 10) (h : a ≠ b) (w : World) :
    Calls Tryz.prog 28 #[.int .i64 op, .int .i64 a, .int .i64 b] w fun e w' => e = .returned (.int .i64 0) ∧ Below w.heap.size w w' := by
  have e1 : (a != b) = true := by simpa using h
  rcases typ3 h1 h2 with rfl | rfl | ⟨h3, h4⟩
  · obtain rfl | rfl | rfl | rfl | rfl | rfl | rfl | rfl | rfl | rfl | rfl | rfl | rfl | rfl | rfl | rfl | rfl | rfl := op18 o1 o2
    all_goals clear h1 h2 o1 o2 h
    all_goals go_enter Tryz.func28, Tryz.ntmps28
    all_goals go_wp2_with (first | (go_at_call 21; refine (millIsInteger_f 1 (by decide) _).mono ?_; rintro e w' ⟨rfl, hw⟩; have hw2 := hw.symm; clear hw; subst hw2) | fail)
    all_goals try (go_quiet (fail); go_wp2)
    all_goals go_ret
    all_goals exact ⟨rfl, by first | exact Below.refl _ _ | exact drewN_below _ _⟩
  · obtain rfl | rfl | rfl | rfl | rfl | rfl | rfl | rfl | rfl | rfl | rfl | rfl | rfl | rfl | rfl | rfl | rfl | rfl := op18 o1 o2
    all_goals clear h1 h2 o1 o2 h
    all_goals go_enter Tryz.func28, Tryz.ntmps28
    all_goals go_wp2_with (first | (go_at_call 21; refine (millIsInteger_f 2 (by decide) _).mono ?_; rintro e w' ⟨rfl, hw⟩; have hw2 := hw.symm; clear hw; subst hw2) | fail)
    all_goals try (go_quiet (fail); go_wp2)
    all_goals go_ret
    all_goals exact ⟨rfl, by first | exact Below.refl _ _ | exact drewN_below _ _⟩
  · have n1 : ¬ a = 1 := by omega
    have n2 : ¬ a = 2 := by omega
    have n0 : (a != 0) = true := by simp; omega
    obtain rfl | rfl | rfl | rfl | rfl | rfl | rfl | rfl | rfl | rfl | rfl | rfl | rfl | rfl | rfl | rfl | rfl | rfl := op18 o1 o2
    all_goals clear h1 h2 o1 o2 h
    all_goals go_enter Tryz.func28, Tryz.ntmps28
    all_goals go_wp2_with (first | (go_at_call 21; refine (millIsInteger_t a h3 h4 _).mono ?_; rintro e w' ⟨rfl, hw⟩; have hw2 := hw.symm; clear hw; subst hw2) | fail)
    all_goals try (go_quiet (fail); go_wp2)
    all_goals go_ret
    all_goals exact ⟨rfl, by first | exact Below.refl _ _ | exact drewN_below _ _⟩
theorem binT_other {op a b : Int} (h : a ≠ b) : binT op a b = 0 := by unfold binT; rw [if_pos h]
theorem binGives_any (op a b : Int) (o1 : 1 ≤ op) (o2 : op ≤ 18) (h1 : 1 ≤ a) (h2 : a ≤ 10) (w : World) :
    Calls Tryz.prog 28 #[.int .i64 op, .int .i64 a, .int .i64 b] w fun e w' => e = .returned (.int .i64 (binT op a b)) ∧ Below w.heap.size w w' := by
  by_cases h : a = b
  · subst h; exact binGives_same op a o1 o2 h1 h2 w
  · rw [binT_other h]; exact binGives_other op a b o1 o2 h1 h2 h w
/-- How two texts compare. -/
abbrev lessT (s x : ByteArray) : Bool := Op.bytesLess s.toList x.toList
abbrev sameT (s x : ByteArray) : Bool := s.toList == x.toList
set_option maxHeartbeats 1000000 in
theorem cmp_str (op : Int) (s x : ByteArray) (h3 : 3 ≤ op) (h8 : op ≤ 8) (w : World) :
    Calls Tryz.prog 55 #[.int .i64 op, .string s, .string x] w fun e w' => e = .returned (.bool (ordB op (lessT s x) (sameT s x))) ∧ w' = w := by
  obtain rfl | rfl | rfl | rfl | rfl | rfl : op = 3 ∨ op = 4 ∨ op = 5 ∨ op = 6 ∨ op = 7 ∨ op = 8 := by omega
  all_goals clear h3 h8
  all_goals go_enter Tryz.func55, Tryz.ntmps55
  all_goals go_wp2
  all_goals go_ret
  all_goals exact ⟨ret_bool (by unfold ordB; simp), rfl⟩
end Go.Proofs.YtabefhpgeaihgaaGreatDoor.V
