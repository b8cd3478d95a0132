import Derived.Test.YtlopcjhipajdcaaGreatDoorJ00
/-! FnExactMillValidReply, for every argument. -/
namespace Go.Proofs.YtlopcjhipajdcaaGreatDoor.J
open Go.RowKit
set_option maxRecDepth 20000
def RepOk (c : Int) (s : ByteArray) : Prop := c = 0 ∧ s.size ≤ 3000 ∨ (c = 4 ∨ c = 5) ∧ s.size = 0
theorem size_zero {s : ByteArray} (h : s.size = 0) : s = ⟨#[]⟩ := ByteArray.ext (Array.size_eq_zero_iff.1 h)
theorem isEmpty_iff (s : ByteArray) : s.toList.isEmpty = decide (s.size = 0) := by
  by_cases h : s.size = 0
  · rw [size_zero h, Lib.toList_data]; rfl
  · rw [decide_eq_false h, Lib.toList_data]
    cases e : s.data.toList with
    | nil => exact absurd (by rw [← len_size, e]; rfl) h
    | cons _ _ => rfl
theorem rep_at {c : Int} {s : ByteArray} {b : Bool} (hc : c = 0 ∧ b = decide (s.size ≤ 3000) ∨ (c = 4 ∨ c = 5) ∧ b = decide (s.size = 0) ∨ c ≠ 0 ∧ c ≠ 4 ∧ c ≠ 5 ∧ b = false) : Says (.returned (.bool b)) (RepOk c s) := by
  refine ⟨b, rfl, ?_⟩
  unfold RepOk
  rcases hc with ⟨h, rfl⟩ | ⟨h, rfl⟩ | ⟨h1, h2, h3, rfl⟩
  · rw [decide_eq_true_iff]; omega
  · rw [decide_eq_true_iff]; omega
  · refine ⟨fun h => by (cases h), fun h => by omega⟩
set_option maxHeartbeats 1000000 in
theorem specReply_any (c : Int) (s : ByteArray) (w : World) (hs : s.size ≤ 1048576) :
    Calls Tryz.prog 98 #[.agg #[.int .i64 c, .string s]] w fun e w' => Says e (RepOk c s) ∧ Below w.heap.size w w' := by
  have H3 : Hid (decide ((s.size : Int) ≤ 3000) = decide (s.size ≤ 3000)) := by show _ = _; rw [Bool.eq_iff_iff, decide_eq_true_iff, decide_eq_true_iff]; omega
  by_cases c0 : c = 0
  · subst c0
    go_enter Tryz.func98, Tryz.ntmps98
    go_wp2
    go_ret
    exact ⟨rep_at (.inl ⟨rfl, H3.out⟩), (Below.refl _ _).alloc (Nat.le_refl _) _⟩
  · by_cases c4 : c = 4
    · subst c4
      go_enter Tryz.func98, Tryz.ntmps98
      go_wp2
      go_ret
      exact ⟨rep_at (.inr (.inl ⟨.inl rfl, isEmpty_iff s⟩)), (Below.refl _ _).alloc (Nat.le_refl _) _⟩
    · by_cases c5 : c = 5
      · subst c5
        go_enter Tryz.func98, Tryz.ntmps98
        go_wp2
        go_ret
        exact ⟨rep_at (.inr (.inl ⟨.inr rfl, isEmpty_iff s⟩)), (Below.refl _ _).alloc (Nat.le_refl _) _⟩
      · go_enter Tryz.func98, Tryz.ntmps98
        go_wp2
        go_ret
        exact ⟨rep_at (.inr (.inr ⟨c0, c4, c5, rfl⟩)), (Below.refl _ _).alloc (Nat.le_refl _) _⟩
set_option maxHeartbeats 1000000 in
theorem implReply_any (c : Int) (s : ByteArray) (w : World) (hs : s.size ≤ 1048576) :
    Calls Tryz.prog 165 #[.agg #[.int .i64 c, .string s]] w fun e w' => Says e (RepOk c s) ∧ Below w.heap.size w w' := by
  have H3 : Hid (decide ((s.size : Int) ≤ 3000) = decide (s.size ≤ 3000)) := by show _ = _; rw [Bool.eq_iff_iff, decide_eq_true_iff, decide_eq_true_iff]; omega
  by_cases c0 : c = 0
  · subst c0
    go_enter Tryz.func165, Tryz.ntmps165
    go_wp2
    go_ret
    exact ⟨rep_at (.inl ⟨rfl, H3.out⟩), (Below.refl _ _).alloc (Nat.le_refl _) _⟩
  · by_cases c4 : c = 4
    · subst c4
      go_enter Tryz.func165, Tryz.ntmps165
      go_wp2
      go_ret
      exact ⟨rep_at (.inr (.inl ⟨.inl rfl, isEmpty_iff s⟩)), (Below.refl _ _).alloc (Nat.le_refl _) _⟩
    · by_cases c5 : c = 5
      · subst c5
        go_enter Tryz.func165, Tryz.ntmps165
        go_wp2
        go_ret
        exact ⟨rep_at (.inr (.inl ⟨.inr rfl, isEmpty_iff s⟩)), (Below.refl _ _).alloc (Nat.le_refl _) _⟩
      · go_enter Tryz.func165, Tryz.ntmps165
        go_wp2
        go_ret
        exact ⟨rep_at (.inr (.inr ⟨c0, c4, c5, rfl⟩)), (Below.refl _ _).alloc (Nat.le_refl _) _⟩
end Go.Proofs.YtlopcjhipajdcaaGreatDoor.J
