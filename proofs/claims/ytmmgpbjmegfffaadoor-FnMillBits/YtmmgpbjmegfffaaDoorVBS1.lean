import Derived.Test.YtmmgpbjmegfffaaDoorVBox
import Derived.Test.YtmmgpbjmegfffaaDoorVM2
/-! What the model has for two values. -/
namespace Go.Proofs.YtmmgpbjmegfffaaDoor.V
open Go.RowKit Go.Shelf
set_option maxRecDepth 20000
theorem kt_signed {t a : Int} (h7 : 7 ≤ t) (h10 : t ≤ 10) (h : a = into t a) : (kT t).wrap a = a := by
  obtain rfl | rfl | rfl | rfl : t = 7 ∨ t = 8 ∨ t = 9 ∨ t = 10 := by omega
  all_goals (simp [into, intoK, kT7, kT8, kT9, kT10, IntKind.wrap, IntKind.bits, IntKind.signed] at h ⊢; omega)
theorem kt_unsigned {t a : Int} (h3 : 3 ≤ t) (h6 : t ≤ 6) (h : a = into t a) : (kT t).wrap a = IntKind.u64.wrap a := by
  obtain rfl | rfl | rfl | rfl : t = 3 ∨ t = 4 ∨ t = 5 ∨ t = 6 := by omega
  all_goals (simp [into, intoK, kT3, kT4, kT5, kT6, IntKind.wrap, IntKind.bits, IntKind.signed] at h ⊢ <;> omega)
theorem kt_eq {t a b : Int} (ha : a = into t a) (hb : b = into t b) : a = b ↔ (kT t).wrap a = (kT t).wrap b := by
  refine ⟨fun h => by rw [h], fun h => ?_⟩
  rw [ha, hb]
  unfold into intoK
  rw [h]
/-- An order's answer, by what is below and what is the same. -/
def ordB (op : Int) (L E : Bool) : Bool := if op = 3 then E else if op = 4 then !E else if op = 5 then L else if op = 6 then L || E else if op = 7 then !L && !E else !L
theorem ord_cmp (op a b : Int) : ordB op (decide (a < b)) (decide (a = b)) = cmpB op a b := by
  unfold ordB cmpB
  repeat' split
  all_goals first | rfl | (rw [Bool.eq_iff_iff]; simp <;> omega)
set_option maxHeartbeats 1000000 in
theorem l13Less_s (t a b : Int) (h7 : 7 ≤ t) (h10 : t ≤ 10) (w : World) :
    Calls Tryd.prog 47 #[.int .i64 t, .int .i64 a, .int .i64 b] w fun e w' => e = .returned (.bool (decide (a < b))) ∧ w' = w := by
  have HS : Hid (∀ W, Calls Tryd.prog 32 #[.int .i64 t] W fun e w' => e = .returned (.bool true) ∧ w' = W) := fun W => by
    have := l10Signed_any t W
    rwa [show (decide (7 ≤ t) && decide (t ≤ 10)) = true by simp [h7, h10]] at this
  go_enter Tryd.func47, Tryd.ntmps47
  go_wp2_with (first | (go_at_call 32; refine (HS.out _).mono ?_; rintro e w' ⟨rfl, hw⟩; have hw2 := hw.symm; clear hw; subst hw2) | fail)
  go_ret
  exact ⟨rfl, rfl⟩
set_option maxHeartbeats 1000000 in
theorem l13Less_u (t a b : Int) (h7 : t < 7) (w : World) :
    Calls Tryd.prog 47 #[.int .i64 t, .int .i64 a, .int .i64 b] w fun e w' => e = .returned (.bool (decide (IntKind.u64.wrap a < IntKind.u64.wrap b))) ∧ w' = w := by
  have HS : Hid (∀ W, Calls Tryd.prog 32 #[.int .i64 t] W fun e w' => e = .returned (.bool false) ∧ w' = W) := fun W => by
    have := l10Signed_any t W
    rwa [show (decide (7 ≤ t) && decide (t ≤ 10)) = false by simp; omega] at this
  go_enter Tryd.func47, Tryd.ntmps47
  go_wp2_with (first | (go_at_call 32; refine (HS.out _).mono ?_; rintro e w' ⟨rfl, hw⟩; have hw2 := hw.symm; clear hw; subst hw2) | fail)
  go_ret
  exact ⟨rfl, rfl⟩
set_option maxHeartbeats 1000000 in
theorem l13Compare_n (t a b : Int) (s x : ByteArray) (L : Bool) (ht : t ≠ 2) (hL : ∀ W, Calls Tryd.prog 47 #[.int .i64 t, .int .i64 a, .int .i64 b] W fun e w' => e = .returned (.bool L) ∧ w' = W) (w : World) :
    Calls Tryd.prog 30 #[val t a s, val t b x] w fun e w' => e = .returned (.tuple #[.bool L, .bool (decide (a = b))]) ∧ Below w.heap.size w w' := by
  have HL := hid hL
  clear hL
  go_enter Tryd.func30, Tryd.ntmps30
  go_wp2_with fail
  go_quiet (first | (go_at_call 47; exact Calls.quiet_of_same (HL.out _)) | fail)
  go_wp2
  exact bodyPost_ret (v := .tuple #[.bool L, .bool (decide (a = b))]) (by simp [results, Tryd.results30, go_sem]; try rfl) rfl ⟨rfl, (alloc2 _ _ _).trans ((drewN_below _ _).mono (by simp; try omega))⟩
set_option maxHeartbeats 1000000 in
theorem l13Compare_t (a b : Int) (s x : ByteArray) (w : World) :
    Calls Tryd.prog 30 #[val 2 a s, val 2 b x] w fun e w' => e = .returned (.tuple #[.bool (Op.bytesLess s.toList x.toList), .bool (s.toList == x.toList)]) ∧ Below w.heap.size w w' := by
  go_enter Tryd.func30, Tryd.ntmps30
  go_wp2
  go_quiet (fail)
  go_wp2
  exact bodyPost_ret (v := .tuple #[.bool (Op.bytesLess s.toList x.toList), .bool (s.toList == x.toList)]) (by simp [results, Tryd.results30, go_sem]) rfl ⟨rfl, (alloc2 _ _ _).trans ((drewN_below _ _).mono (by simp; try omega))⟩
set_option maxHeartbeats 1000000 in
theorem l13Order_any (op t a t2 b : Int) (s x : ByteArray) (L E : Bool) (h3 : 3 ≤ op) (h8 : op ≤ 8) (hC : ∀ W, Calls Tryd.prog 30 #[val t a s, val t2 b x] W fun e w' => e = .returned (.tuple #[.bool L, .bool E]) ∧ Below W.heap.size W w') (w : World) :
    Calls Tryd.prog 15 #[.int .i64 op, val t a s, val t2 b x] w fun e w' => e = .returned (.bool (ordB op L E)) ∧ Below w.heap.size w w' := by
  have HC := hid hC
  clear hC
  obtain rfl | rfl | rfl | rfl | rfl | rfl : op = 3 ∨ op = 4 ∨ op = 5 ∨ op = 6 ∨ op = 7 ∨ op = 8 := by omega
  all_goals clear h3 h8
  all_goals cases L <;> cases E
  all_goals go_enter Tryd.func15, Tryd.ntmps15
  all_goals go_wp2_with fail
  all_goals refine (HC.out _).mono ?_
  all_goals rintro e w1 ⟨rfl, hb1⟩
  all_goals have HB1 := hid ((alloc2 w _ _).trans (hb1.mono (by simp; try omega)))
  all_goals clear hb1
  all_goals go_wp2
  all_goals go_ret
  all_goals exact ⟨rfl, HB1.out⟩
/-- What a mark with two kids gives, of types that values have. -/
def binT (op a b : Int) : Int :=
  if a ≠ b then 0 else if op = 1 ∨ op = 2 then (if a = 1 then a else 0) else if op = 3 ∨ op = 4 then 1
  else if op ≤ 8 then (if a ≠ 1 then 1 else 0) else if op = 9 then (if a ≠ 1 then a else 0) else if 3 ≤ a then a else 0
theorem typ3 {a : Int} (h1 : 1 ≤ a) (h2 : a ≤ 10) : a = 1 ∨ a = 2 ∨ (3 ≤ a ∧ a ≤ 10) := by omega
theorem op18 {op : Int} (h1 : 1 ≤ op) (h2 : op ≤ 18) : op = 1 ∨ op = 2 ∨ op = 3 ∨ op = 4 ∨ op = 5 ∨ op = 6 ∨ op = 7 ∨ op = 8 ∨ op = 9 ∨ op = 10 ∨ op = 11 ∨ op = 12 ∨ op = 13 ∨ op = 14 ∨ op = 15 ∨ op = 16 ∨ op = 17 ∨ op = 18 := by omega
set_option maxHeartbeats 4000000 in
theorem l12Bin_same (op a : Int) (o1 : 1 ≤ op) (o2 : op ≤ 18) (h1 : 1 ≤ a) (h2 : a ≤ 10) (w : World) :
    Calls Tryd.prog 13 #[.int .i64 op, .int .i64 a, .int .i64 a] w fun e w' => e = .returned (.int .i64 (binT op a a)) ∧ w' = w := by
  have e1 : (a != a) = false := by simp
  rcases typ3 h1 h2 with rfl | rfl | ⟨h3, h4⟩
  · obtain rfl | rfl | rfl | rfl | rfl | rfl | rfl | rfl | rfl | rfl | rfl | rfl | rfl | rfl | rfl | rfl | rfl | rfl := op18 o1 o2
    all_goals clear h1 h2 o1 o2
    all_goals go_enter Tryd.func13, Tryd.ntmps13
    all_goals go_wp2_with (first | (go_at_call 25; refine (l10Integer_f 1 (by decide) _).mono ?_; rintro e w' ⟨rfl, hw⟩; have hw2 := hw.symm; clear hw; subst hw2) | fail)
    all_goals go_ret
    all_goals exact ⟨rfl, rfl⟩
  · obtain rfl | rfl | rfl | rfl | rfl | rfl | rfl | rfl | rfl | rfl | rfl | rfl | rfl | rfl | rfl | rfl | rfl | rfl := op18 o1 o2
    all_goals clear h1 h2 o1 o2
    all_goals go_enter Tryd.func13, Tryd.ntmps13
    all_goals go_wp2_with (first | (go_at_call 25; refine (l10Integer_f 2 (by decide) _).mono ?_; rintro e w' ⟨rfl, hw⟩; have hw2 := hw.symm; clear hw; subst hw2) | fail)
    all_goals go_ret
    all_goals exact ⟨rfl, rfl⟩
  · have n1 : ¬ a = 1 := by omega
    have n0 : ¬ a = 0 := by omega
    have HT : Hid (∀ op, binT op a a = if op = 1 ∨ op = 2 then 0 else if op ≤ 8 then 1 else a) := fun op => by
      unfold binT
      simp only [ne_eq, not_true_eq_false, if_false, n1, not_false_eq_true, if_true, h3]
      repeat' split
      all_goals first | rfl | omega
    obtain rfl | rfl | rfl | rfl | rfl | rfl | rfl | rfl | rfl | rfl | rfl | rfl | rfl | rfl | rfl | rfl | rfl | rfl := op18 o1 o2
    all_goals clear h1 h2 o1 o2
    all_goals go_enter Tryd.func13, Tryd.ntmps13
    all_goals go_wp2_with (first | (go_at_call 25; refine (l10Integer_t a h3 h4 _).mono ?_; rintro e w' ⟨rfl, hw⟩; have hw2 := hw.symm; clear hw; subst hw2) | fail)
    all_goals go_ret
    all_goals exact ⟨ret_int (by rw [HT.out]; rfl), rfl⟩
set_option maxHeartbeats 4000000 in
theorem l12Bin_other (op a b : Int) (h : a ≠ b) (w : World) :
    Calls Tryd.prog 13 #[.int .i64 op, .int .i64 a, .int .i64 b] w fun e w' => e = .returned (.int .i64 0) ∧ Below w.heap.size w w' := by
  have e1 : (a != b) = true := by simpa using h
  clear h
  go_enter Tryd.func13, Tryd.ntmps13
  go_wp2
  try (go_quiet (fail); go_wp2)
  go_ret
  exact ⟨rfl, by first | exact Below.refl _ _ | exact drewN_below _ _⟩
end Go.Proofs.YtmmgpbjmegfffaaDoor.V
