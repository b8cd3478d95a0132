import Derived.Test.YtmiodmnbkoheeaaJJob
/-! Jobs: whether one is valid, by the program. -/
namespace Go.Proofs.Ytmiodmnbkoheeaa.J
open Go.RowKit
set_option maxRecDepth 20000
set_option maxHeartbeats 2000000 in
theorem implJob_any (a : ByteArray) (g N cap : Nat) (s : Nat → ByteArray) (w : World) (ha : a.size ≤ 1048576) (hN : N ≤ 1048576) (hg : g < w.heap.size) (hn : TextsAt w g N s) (ht : ∀ i, i < N → (s i).size ≤ 1048576) :
    Calls Try.prog 8 #[.agg #[.string a, .slice (some ⟨g, 0, none⟩) N cap]] w fun e w' => Says e (JobOk a N s) ∧ Below w.heap.size w w' := by
  have HN := hid hn
  have HT := hid ht
  clear hn ht
  have HB0 := hid (Below.refl (w.heap.size + 1) (w.alloc (.cells #[.string a, .slice (some ⟨g, 0, none⟩) N cap] 27)))
  by_cases h1 : a.size ≤ 3000
  · by_cases h2 : N ≤ 20
    · go_enter Try.func8, Try.ntmps8
      go_wp2
      go_loopw [3, 4, 18] (fun _ _ i wr => ∃ k : Nat, k ≤ N ∧ i = .int .i64 k ∧ (∀ i, i < k → OutOk s i) ∧ Below (w.heap.size + 1) (w.alloc (.cells #[.string a, .slice (some ⟨g, 0, none⟩) N cap] 27)) wr) (fun _ _ i _ => N - (intOf i).toNat)
      case atStart => exact ⟨0, Nat.zero_le _, rfl, fun i h => absurd h (Nat.not_lt_zero _), HB0.out⟩
      case round =>
        obtain ⟨k, hk, rfl, hr, hbw⟩ := hrel
        have HR := hid hr
        have HBW := hid hbw
        clear hr hbw
        by_cases hlt : k < N
        · have a0 := (HN.out.below (btree HBW.out) hg) k hlt
          have hfail : Hid (¬ OutOk s k → ¬ JobOk a N s) := fun h h' => h (h'.2.2 k hlt)
          go_wp2_with fail
          refine (implFile_any _ _ (HT.out k hlt)).mono ?_
          rintro e w3 ⟨hs3, hb3⟩
          have HB3 := hid (HBW.out.trans (hb3.mono (by have := HBW.out.size; simpa using this)))
          obtain ⟨_, b1⟩ := box2 HB3.out
          clear a0 hb3
          have a0 := (HN.out.below (btree HB3.out) hg) k hlt
          by_cases hP : FileOk (s k)
          · obtain rfl := hs3.pos hP
            rcases Nat.eq_zero_or_pos k with h0 | h0
            · subst h0
              have HO := hid (show OutOk s 0 from ⟨hP, fun h => absurd h (Nat.lt_irrefl _)⟩)
              clear hs3
              go_wp2
              go_roundw
              case rel => exact ⟨0 + 1, by omega, by go_num, all_step HR.out HO.out, HB3.out⟩
              case measure => simp [intOf]; omega
            · obtain ⟨p, rfl⟩ : ∃ p, k = p + 1 := ⟨k - 1, by omega⟩
              have c0 := (HN.out.below (btree HB3.out) hg) p (by omega)
              clear hs3
              cases hL : Go.Op.bytesLess (s p).toList (s (p + 1)).toList
              · have HE := hid (hfail.out (fun h => by have := h.2 (by omega); rw [Nat.add_sub_cancel] at this; unfold ltB at this; rw [hL] at this; cases this))
                go_wp2
                go_ret
                exact ⟨says_f HE.out, btree HB3.out⟩
              · have HO := hid (show OutOk s (p + 1) from ⟨hP, fun _ => hL⟩)
                go_wp2
                go_roundw
                case rel => exact ⟨p + 1 + 1, by omega, by go_num, all_step HR.out HO.out, HB3.out⟩
                case measure => simp [intOf]; omega
          · obtain rfl := hs3.neg hP
            have HE := hid (hfail.out (fun h => hP h.1))
            clear hs3
            go_wp2
            go_ret
            exact ⟨says_f HE.out, btree HB3.out⟩
        · obtain rfl : k = N := by omega
          have HO := hid (show JobOk a k s from ⟨h1, h2, HR.out⟩)
          go_wp2
          go_ret
          exact ⟨says_t HO.out, btree HBW.out⟩
    · go_enter Try.func8, Try.ntmps8
      go_wp2
      go_ret
      exact ⟨says_f fun h => h2 h.2.1, (Below.refl _ _).alloc (Nat.le_refl _) _⟩
  · go_enter Try.func8, Try.ntmps8
    go_wp2
    go_ret
    exact ⟨says_f fun h => h1 h.1, (Below.refl _ _).alloc (Nat.le_refl _) _⟩
end Go.Proofs.Ytmiodmnbkoheeaa.J
