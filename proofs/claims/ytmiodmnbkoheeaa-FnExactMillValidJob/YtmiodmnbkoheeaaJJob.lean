import Derived.Test.YtmiodmnbkoheeaaJBeg
/-! Jobs: whether one is valid, by both sides. -/
namespace Go.Proofs.Ytmiodmnbkoheeaa.J
open Go.RowKit
set_option maxRecDepth 20000
def ltB (a b : ByteArray) : Bool := Go.Op.bytesLess a.toList b.toList
/-- The i-th text is a name of a file, above the one ahead of it. -/
def OutOk (s : Nat → ByteArray) (i : Nat) : Prop := FileOk (s i) ∧ (0 < i → ltB (s (i - 1)) (s i) = true)
def JobOk (a : ByteArray) (N : Nat) (s : Nat → ByteArray) : Prop := a.size ≤ 3000 ∧ N ≤ 20 ∧ ∀ i, i < N → OutOk s i
theorem all_step {P : Nat → Prop} {k : Nat} (h : ∀ i, i < k → P i) (hk : P k) : ∀ i, i < k + 1 → P i := fun i hi => by
  rcases Nat.lt_or_eq_of_le (Nat.lt_succ_iff.1 hi) with h' | h'
  · exact h i h'
  · subst h'; exact hk
theorem TextsAt.below {W W' : World} {g N : Nat} {s : Nat → ByteArray} (h : TextsAt W g N s) (hb : Below W.heap.size W W') (hg : g < W.heap.size) : TextsAt W' g N s := fun i hi => (hb.cell (p := ⟨g, i, none⟩) hg).trans (h i hi)
set_option maxHeartbeats 2000000 in
theorem specJob_any (a : ByteArray) (g N cap : Nat) (s : Nat → ByteArray) (w : World) (ha : a.size ≤ 1048576) (hN : N ≤ 1048576) (hg : g < w.heap.size) (hn : TextsAt w g N s) (ht : ∀ i, i < N → (s i).size ≤ maxLen) :
    Calls Try.prog 6 #[.agg #[.string a, .slice (some ⟨g, 0, none⟩) N cap]] w fun e w' => Says e (JobOk a N s) ∧ Below w.heap.size w w' := by
  have HN := hid hn
  have HT := hid ht
  clear hn ht
  have HB0 := hid (Below.refl (w.heap.size + 1) (w.alloc (.cells #[.string a, .slice (some ⟨g, 0, none⟩) N cap] 27)))
  by_cases h1 : a.size ≤ 3000
  · by_cases h2 : N ≤ 20
    · go_enter Try.func6, Try.ntmps6
      go_wp2
      go_loopw [3] (fun i wr => ∃ k : Nat, k ≤ N ∧ i = .int .i64 k ∧ (∀ i, i < k → OutOk s i) ∧ Below (w.heap.size + 1) (w.alloc (.cells #[.string a, .slice (some ⟨g, 0, none⟩) N cap] 27)) wr) (fun i _ => N - (intOf i).toNat)
      case atStart => exact ⟨0, Nat.zero_le _, rfl, fun i h => absurd h (Nat.not_lt_zero _), HB0.out⟩
      case round =>
        obtain ⟨k, hk, rfl, hr, hbw⟩ := hrel
        have HR := hid hr
        have HBW := hid hbw
        clear hr hbw
        obtain ⟨b0, b1⟩ := box2 HBW.out
        by_cases hlt : k < N
        · have a0 := (HN.out.below (btree HBW.out) hg) k hlt
          have hfail : Hid (¬ OutOk s k → ¬ JobOk a N s) := fun h h' => h (h'.2.2 k hlt)
          by_cases hP : FileOk (s k)
          · rcases Nat.eq_zero_or_pos k with h0 | h0
            · subst h0
              have HO := hid (show OutOk s 0 from ⟨hP, fun h => absurd h (Nat.lt_irrefl _)⟩)
              go_wp2_with fail
              go_quiet ((go_at_call 15; refine Calls.quiet_of_same (v := .bool true) ?_; refine (l15Path_any _ _ (HT.out 0 hlt)).mono ?_; rintro e w3 ⟨hs3, hb3⟩; exact ⟨hs3.pos hP, hb3⟩))
              go_wp2
              go_roundw
              case rel => exact ⟨0 + 1, by omega, by go_num, all_step HR.out HO.out, below_drewN HBW.out nq⟩
              case measure => simp [intOf]; omega
            · obtain ⟨p, rfl⟩ : ∃ p, k = p + 1 := ⟨k - 1, by omega⟩
              have c0 := (HN.out.below (btree HBW.out) hg) p (by omega)
              cases hL : Go.Op.bytesLess (s p).toList (s (p + 1)).toList
              · have HE := hid (hfail.out (fun h => by have := h.2 (by omega); rw [Nat.add_sub_cancel] at this; unfold ltB at this; rw [hL] at this; cases this))
                go_wp2_with fail
                go_quiet ((go_at_call 15; refine Calls.quiet_of_same (v := .bool true) ?_; refine (l15Path_any _ _ (HT.out (p + 1) hlt)).mono ?_; rintro e w3 ⟨hs3, hb3⟩; exact ⟨hs3.pos hP, hb3⟩))
                go_wp2
                go_ret
                exact ⟨says_f HE.out, below_drewN (btree HBW.out) nq⟩
              · have HO := hid (show OutOk s (p + 1) from ⟨hP, fun _ => hL⟩)
                go_wp2_with fail
                go_quiet ((go_at_call 15; refine Calls.quiet_of_same (v := .bool true) ?_; refine (l15Path_any _ _ (HT.out (p + 1) hlt)).mono ?_; rintro e w3 ⟨hs3, hb3⟩; exact ⟨hs3.pos hP, hb3⟩))
                go_wp2
                go_roundw
                case rel => exact ⟨p + 1 + 1, by omega, by go_num, all_step HR.out HO.out, below_drewN HBW.out nq⟩
                case measure => simp [intOf]; omega
          · have HE := hid (hfail.out (fun h => hP h.1))
            go_wp2_with fail
            go_quiet ((go_at_call 15; refine Calls.quiet_of_same (v := .bool false) ?_; refine (l15Path_any _ _ (HT.out k hlt)).mono ?_; rintro e w3 ⟨hs3, hb3⟩; exact ⟨hs3.neg hP, hb3⟩))
            go_wp2
            go_ret
            exact ⟨says_f HE.out, below_drewN (btree HBW.out) nq⟩
        · obtain rfl : k = N := by omega
          have HO := hid (show JobOk a k s from ⟨h1, h2, HR.out⟩)
          go_wp2
          go_ret
          exact ⟨says_t HO.out, btree HBW.out⟩
    · go_enter Try.func6, Try.ntmps6
      go_wp2
      go_ret
      exact ⟨says_f fun h => h2 h.2.1, (Below.refl _ _).alloc (Nat.le_refl _) _⟩
  · go_enter Try.func6, Try.ntmps6
    go_wp2
    go_ret
    exact ⟨says_f fun h => h1 h.1, (Below.refl _ _).alloc (Nat.le_refl _) _⟩
end Go.Proofs.Ytmiodmnbkoheeaa.J
