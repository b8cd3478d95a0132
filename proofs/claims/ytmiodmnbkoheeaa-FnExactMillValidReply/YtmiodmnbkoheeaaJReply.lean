import Derived.Test.YtmiodmnbkoheeaaJBase
/-! FnExactMillValidReply, for every argument. -/
namespace Go.Proofs.Ytmiodmnbkoheeaa.J
open Go.RowKit
set_option maxRecDepth 20000
def RepOk (c : Int) (s : ByteArray) : Prop := c = 0 ∧ s.size ≤ 3000 ∨ (c = 4 ∨ c = 5) ∧ s.size = 0
theorem size_zero {s : ByteArray} (h : s.size = 0) : s = ⟨#[]⟩ := ByteArray.ext (Array.size_eq_zero_iff.1 h)
theorem isEmpty_iff (s : ByteArray) : s.toList.isEmpty = decide (s.size = 0) := by
  by_cases h : s.size = 0
  · rw [size_zero h, Lib.toList_data]; rfl
  · rw [decide_eq_false h, Lib.toList_data]
    cases e : s.data.toList with
    | nil => exact absurd (by rw [← len_size, e]; rfl) h
    | cons _ _ => rfl
theorem rep_at {c : Int} {s : ByteArray} {b : Bool} (hc : c = 0 ∧ b = decide (s.size ≤ 3000) ∨ (c = 4 ∨ c = 5) ∧ b = decide (s.size = 0) ∨ c ≠ 0 ∧ c ≠ 4 ∧ c ≠ 5 ∧ b = false) : Says (.returned (.bool b)) (RepOk c s) := by
  refine ⟨b, rfl, ?_⟩
  unfold RepOk
  rcases hc with ⟨h, rfl⟩ | ⟨h, rfl⟩ | ⟨h1, h2, h3, rfl⟩
  · rw [decide_eq_true_iff]; omega
  · rw [decide_eq_true_iff]; omega
  · refine ⟨fun h => by (cases h), fun h => by omega⟩
set_option maxHeartbeats 1000000 in
theorem specReply_any (c : Int) (s : ByteArray) (w : World) (hs : s.size ≤ 1048576) :
    Calls Try.prog 11 #[.agg #[.int .i64 c, .string s]] w fun e w' => Says e (RepOk c s) ∧ Below w.heap.size w w' := by
  have H3 : Hid (decide ((s.size : Int) ≤ 3000) = decide (s.size ≤ 3000)) := by show _ = _; rw [Bool.eq_iff_iff, decide_eq_true_iff, decide_eq_true_iff]; omega
  by_cases c0 : c = 0
  · subst c0
    go_enter Try.func11, Try.ntmps11
    go_wp2
    go_ret
    exact ⟨rep_at (.inl ⟨rfl, H3.out⟩), (Below.refl _ _).alloc (Nat.le_refl _) _⟩
  · by_cases c4 : c = 4
    · subst c4
      go_enter Try.func11, Try.ntmps11
      go_wp2
      go_ret
      exact ⟨rep_at (.inr (.inl ⟨.inl rfl, isEmpty_iff s⟩)), (Below.refl _ _).alloc (Nat.le_refl _) _⟩
    · by_cases c5 : c = 5
      · subst c5
        go_enter Try.func11, Try.ntmps11
        go_wp2
        go_ret
        exact ⟨rep_at (.inr (.inl ⟨.inr rfl, isEmpty_iff s⟩)), (Below.refl _ _).alloc (Nat.le_refl _) _⟩
      · go_enter Try.func11, Try.ntmps11
        go_wp2
        go_ret
        exact ⟨rep_at (.inr (.inr ⟨c0, c4, c5, rfl⟩)), (Below.refl _ _).alloc (Nat.le_refl _) _⟩
set_option maxHeartbeats 1000000 in
theorem implReply_any (c : Int) (s : ByteArray) (w : World) (hs : s.size ≤ 1048576) :
    Calls Try.prog 13 #[.agg #[.int .i64 c, .string s]] w fun e w' => Says e (RepOk c s) ∧ Below w.heap.size w w' := by
  have H3 : Hid (decide ((s.size : Int) ≤ 3000) = decide (s.size ≤ 3000)) := by show _ = _; rw [Bool.eq_iff_iff, decide_eq_true_iff, decide_eq_true_iff]; omega
  by_cases c0 : c = 0
  · subst c0
    go_enter Try.func13, Try.ntmps13
    go_wp2
    go_ret
    exact ⟨rep_at (.inl ⟨rfl, H3.out⟩), (Below.refl _ _).alloc (Nat.le_refl _) _⟩
  · by_cases c4 : c = 4
    · subst c4
      go_enter Try.func13, Try.ntmps13
      go_wp2
      go_ret
      exact ⟨rep_at (.inr (.inl ⟨.inl rfl, isEmpty_iff s⟩)), (Below.refl _ _).alloc (Nat.le_refl _) _⟩
    · by_cases c5 : c = 5
      · subst c5
        go_enter Try.func13, Try.ntmps13
        go_wp2
        go_ret
        exact ⟨rep_at (.inr (.inl ⟨.inr rfl, isEmpty_iff s⟩)), (Below.refl _ _).alloc (Nat.le_refl _) _⟩
      · go_enter Try.func13, Try.ntmps13
        go_wp2
        go_ret
        exact ⟨rep_at (.inr (.inr ⟨c0, c4, c5, rfl⟩)), (Below.refl _ _).alloc (Nat.le_refl _) _⟩
set_option maxHeartbeats 1000000 in
theorem szReply_any (c : Int) (s : ByteArray) (w : World) (hs : s.size ≤ maxLen) :
    Calls Try.prog 10 #[.agg #[.int .i64 c, .string s], .int .i64 1048576] w fun e w' => (∃ r, e = .returned (.int .i64 r) ∧ (0 ≤ r → s.size ≤ 1048576)) ∧ Below w.heap.size w w' := by
  unfold maxLen at hs
  have hs' : s.size ≤ 9223372036854775807 := by simpa using hs
  clear hs
  by_cases h : (1048576 : Int) - (s.size : Int) < 0
  all_goals go_enter Try.func10, Try.ntmps10
  all_goals go_wp2
  all_goals go_ret
  all_goals exact ⟨⟨_, rfl, fun h => by omega⟩, (Below.refl _ _).alloc (Nat.le_refl _) _⟩
theorem alloc2 (w : World) (a b : Obj) : Below w.heap.size w ((w.alloc a).alloc b) := ((Below.refl _ _).alloc (Nat.le_refl _) a).alloc (by simp) b
theorem alloc3 (w : World) (a b c : Obj) : Below w.heap.size w (((w.alloc a).alloc b).alloc c) := (alloc2 w a b).alloc (by simp; omega) c
theorem box2 {w wr : World} {u v : Value} {t : TypeId} (h : Below (w.heap.size + 1) (w.alloc (.cells #[u, v] t)) wr) :
    wr.cell? ⟨w.heap.size, 0, none⟩ = some u ∧ wr.cell? ⟨w.heap.size, 1, none⟩ = some v := by
  constructor
  · rw [h.cell (p := ⟨w.heap.size, 0, none⟩) (by simp), cell_new_row]; rfl
  · rw [h.cell (p := ⟨w.heap.size, 1, none⟩) (by simp), cell_new_row]; rfl
set_option maxHeartbeats 1000000 in
theorem toReply_any (c : Int) (s : ByteArray) (w : World) :
    Calls Try.prog 12 #[.agg #[.int .i64 c, .string s]] w fun e w' => e = .returned (.agg #[.int .i64 c, .string s]) ∧ Below w.heap.size w w' := by
  go_enter Try.func12, Try.ntmps12
  go_wp2
  exact bodyPost_ret (v := .agg #[.int .i64 c, .string s]) (by simp [results, Try.results12, go_sem]) rfl ⟨rfl, alloc3 _ _ _ _⟩
set_option maxHeartbeats 1000000 in
theorem law_reply (c : Int) (s : ByteArray) (w : World) (hs : s.size ≤ maxLen) :
    Calls Try.prog 4 #[.agg #[.int .i64 c, .string s]] w fun e w' => e = .returned (.bool true) ∧ Below w.heap.size w w' := by
  go_enter Try.func4, Try.ntmps4
  go_wp2_with fail
  have HB0 := hid (Below.refl (w.heap.size + 1) (w.alloc (.cells #[.int .i64 c, .string s] 32)))
  have HST : Hid (∀ W W', Below (w.heap.size + 1) (w.alloc (.cells #[.int .i64 c, .string s] 32)) W → Below W.heap.size W W' → Below (w.heap.size + 1) (w.alloc (.cells #[.int .i64 c, .string s] 32)) W') := fun W W' h h2 => h.trans (h2.mono (by have := h.size; simpa using this))
  refine (szReply_any c s _ hs).mono ?_
  rintro e w1 ⟨⟨r, rfl, h3⟩, hb1⟩
  have HB1 := hid (HST.out _ _ HB0.out hb1)
  obtain ⟨t1, u1⟩ := box2 HB1.out
  clear hb1
  by_cases hr : r < 0
  · clear h3
    go_wp2
    go_ret
    exact ⟨rfl, btree HB1.out⟩
  · have hs2 := h3 (by omega)
    clear h3
    go_wp2_with fail
    refine (toReply_any c s _).mono ?_
    rintro e w2 ⟨rfl, hb2⟩
    have HB2 := hid (HST.out _ _ HB1.out hb2)
    clear hb2
    go_wp2_with fail
    refine (specReply_any c s _ hs2).mono ?_
    rintro e w3 ⟨⟨b3, rfl, hv3⟩, hb3⟩
    have HB3 := hid (HST.out _ _ HB2.out hb3)
    obtain ⟨t3, u3⟩ := box2 HB3.out
    have HV3 := hid hv3
    clear hb3 hv3 t1 u1
    go_wp2_with fail
    refine (toReply_any c s _).mono ?_
    rintro e w4 ⟨rfl, hb4⟩
    have HB4 := hid (HST.out _ _ HB3.out hb4)
    clear hb4 t3 u3
    go_wp2_with fail
    refine (implReply_any c s _ hs2).mono ?_
    rintro e w5 ⟨⟨b5, rfl, hv5⟩, hb5⟩
    have hbb : b5 = b3 := by rw [Bool.eq_iff_iff]; exact hv5.trans HV3.out.symm
    subst hbb
    have HB5 := hid (HST.out _ _ HB4.out hb5)
    clear hb5 hv5
    have hne : (b5 != b5) = false := by simp
    go_wp2
    go_ret
    exact ⟨rfl, btree HB5.out⟩
end Go.Proofs.Ytmiodmnbkoheeaa.J
