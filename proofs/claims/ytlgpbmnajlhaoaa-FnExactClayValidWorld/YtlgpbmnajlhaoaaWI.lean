import Derived.Test.YtlgpbmnajlhaoaaWB
/-! The program's ClayValidWorld. -/
namespace Go.Proofs.Ytlgpbmnajlhaoaa
open Go.RowKit
set_option maxRecDepth 20000
/-- The two cells of a file in a box of its own. -/
theorem file_box {wr W : World} {t : TypeId} {u v : Value} (h : Below (wr.heap.size + 1) (wr.alloc (.cells #[u, v] t)) W) : W.cell? ⟨wr.heap.size, 0, none⟩ = some u ∧ W.cell? ⟨wr.heap.size, 1, none⟩ = some v := world_box h
set_option maxHeartbeats 4000000 in
theorem implWorld_any (gF gN N M : Nat) (f : Nat → Fl) (s : Nat → ByteArray) (w : World) (hN : N ≤ 1048576) (hM : M ≤ 1048576) (hlF : gF < w.heap.size) (hlN : gN < w.heap.size) (hF : FilesAt w gF N f) (hS : TextsAt w gN M s) (hx : ∀ i, i < N → (f i).name.size ≤ maxLen ∧ (f i).text.size ≤ maxLen) (hy : ∀ i, i < M → (s i).size ≤ maxLen) :
    Calls Try.prog 7 #[.agg #[.slice (some ⟨gF, 0, none⟩) N N, .slice (some ⟨gN, 0, none⟩) M M]] w fun e w' => Says e (WorldOk N M f s) ∧ Below w.heap.size w w' := by
  have HF := hid hF
  have HS := hid hS
  have HX := hid hx
  have HY := hid hy
  clear hF hS hx hy
  have HB0 := hid (Below.refl (w.heap.size + 1) (w.alloc (.cells #[.slice (some ⟨gF, 0, none⟩) N N, .slice (some ⟨gN, 0, none⟩) M M] 30)))
  by_cases h20 : N ≤ 20
  · by_cases h60 : M ≤ 60
    · go_enter Try.func7, Try.ntmps7
      go_wp2
      go_loopw [20] (fun i wr => ∃ k : Nat, k ≤ N ∧ i = .int .i64 k ∧ (∀ i, i < k → FlOk f i) ∧ Below (w.heap.size + 1) (w.alloc (.cells #[.slice (some ⟨gF, 0, none⟩) N N, .slice (some ⟨gN, 0, none⟩) M M] 30)) wr) (fun i _ => N - (intOf i).toNat)
      case atStart => exact ⟨0, Nat.zero_le _, rfl, fun i h => absurd h (Nat.not_lt_zero _), HB0.out⟩
      case round =>
        obtain ⟨k, hk, rfl, hr, hbw⟩ := hrel
        have HR := hid hr
        have HBW := hid hbw
        clear hr hbw
        by_cases hlt : k < N
        · obtain ⟨a0, a1⟩ := (HF.out.below (btwo HBW.out) hlF) k hlt
          have hfail : Hid (¬ FlOk f k → ¬ WorldOk N M f s) := fun h h' => h (h'.2.2.1 k hlt)
          go_wp2_with fail
          have HA1 := hid ((Below.refl wr.heap.size wr).alloc (Nat.le_refl _) (.cells #[.string (f k).name, .string (f k).text] 38))
          have HB1 := hid (HBW.out.trans (HA1.out.mono (by have := HBW.out.size; simpa using this)))
          have hdx := file_box (Below.refl _ (wr.alloc (.cells #[.string (f k).name, .string (f k).text] 38)))
          generalize wr.alloc (.cells #[.string (f k).name, .string (f k).text] 38) = W1 at hdx HA1 HB1 ⊢
          obtain ⟨d0, d1⟩ := hdx
          obtain ⟨b0, _⟩ := world_box HB1.out
          clear a0 a1
          by_cases hP : PkgOk (f k).name
          · by_cases h8 : (f k).text.size ≤ 8000
            · have h8' : decide ((8000 : Int) < ((f k).text.size : Int)) = false := by simp; omega
              rcases Nat.eq_zero_or_pos k with h0 | h0
              · subst h0
                have HO := hid (show FlOk f 0 from ⟨hP, h8, fun h => absurd h (Nat.lt_irrefl _)⟩)
                go_quiet ((go_at_call 15; refine Calls.quiet_of_same (v := .bool true) ?_; refine (isPackage_any _ _ (HX.out 0 hlt).1).mono ?_; rintro e w3 ⟨hs3, hb3⟩; exact ⟨hs3.pos hP, hb3⟩))
                go_wp2
                go_roundw
                case rel => exact ⟨0 + 1, by omega, by go_num, all_step HR.out HO.out, below_drewN HB1.out nq⟩
                case measure => simp [intOf]; omega
              · obtain ⟨p, rfl⟩ : ∃ p, k = p + 1 := ⟨k - 1, by omega⟩
                obtain ⟨c0, _⟩ := (HF.out.below (btwo HB1.out) hlF) p (by omega)
                cases hL : Go.Op.bytesLess (f p).name.toList (f (p + 1)).name.toList
                · have HE := hid (hfail.out (fun h => by have := h.2.2 (by omega); rw [Nat.add_sub_cancel] at this; unfold ltB at this; rw [hL] at this; cases this))
                  go_quiet ((go_at_call 15; refine Calls.quiet_of_same (v := .bool true) ?_; refine (isPackage_any _ _ (HX.out (p + 1) hlt).1).mono ?_; rintro e w3 ⟨hs3, hb3⟩; exact ⟨hs3.pos hP, hb3⟩))
                  go_wp2
                  go_ret
                  exact ⟨says_f HE.out, below_drewN (btwo HB1.out) nq⟩
                · have HO := hid (show FlOk f (p + 1) from ⟨hP, h8, fun _ => hL⟩)
                  go_quiet ((go_at_call 15; refine Calls.quiet_of_same (v := .bool true) ?_; refine (isPackage_any _ _ (HX.out (p + 1) hlt).1).mono ?_; rintro e w3 ⟨hs3, hb3⟩; exact ⟨hs3.pos hP, hb3⟩))
                  go_wp2
                  go_roundw
                  case rel => exact ⟨p + 1 + 1, by omega, by go_num, all_step HR.out HO.out, below_drewN HB1.out nq⟩
                  case measure => simp [intOf]; omega
            · have HE := hid (hfail.out (fun h => h8 h.2.1))
              have h8' : (8000 : Int) < ((f k).text.size : Int) := by omega
              go_quiet ((go_at_call 15; refine Calls.quiet_of_same (v := .bool true) ?_; refine (isPackage_any _ _ (HX.out k hlt).1).mono ?_; rintro e w3 ⟨hs3, hb3⟩; exact ⟨hs3.pos hP, hb3⟩))
              go_wp2
              go_ret
              exact ⟨says_f HE.out, below_drewN (btwo HB1.out) nq⟩
          · have HE := hid (hfail.out (fun h => hP h.1))
            go_quiet ((go_at_call 15; refine Calls.quiet_of_same (v := .bool false) ?_; refine (isPackage_any _ _ (HX.out k hlt).1).mono ?_; rintro e w3 ⟨hs3, hb3⟩; exact ⟨hs3.neg hP, hb3⟩))
            go_wp2
            go_ret
            exact ⟨says_f HE.out, below_drewN (btwo HB1.out) nq⟩
        · obtain rfl : k = N := by omega
          have hbx := world_box HBW.out
          obtain ⟨b0, b1⟩ := hbx
          go_wp2
          clear b0 b1
          go_loopw [55] (fun i wr => ∃ j : Nat, j ≤ M ∧ i = .int .i64 j ∧ (∀ i, i < j → NmOk s i) ∧ Below (w.heap.size + 1) (w.alloc (.cells #[.slice (some ⟨gF, 0, none⟩) k k, .slice (some ⟨gN, 0, none⟩) M M] 30)) wr) (fun i _ => M - (intOf i).toNat)
          case atStart => exact ⟨0, Nat.zero_le _, rfl, fun i h => absurd h (Nat.not_lt_zero _), HBW.out⟩
          case round =>
            obtain ⟨j, hj, rfl, hq, hbv⟩ := hrel
            have HQ := hid hq
            have HBV := hid hbv
            clear hq hbv
            obtain ⟨b0, b1⟩ := world_box HBV.out
            by_cases hjt : j < M
            · have a0 := (HS.out.below (btwo HBV.out) hlN) j hjt
              have hfail : Hid (¬ NmOk s j → ¬ WorldOk k M f s) := fun h h' => h (h'.2.2.2 j hjt)
              by_cases hZ : (s j).size = 0
              · have HE := hid (hfail.out (fun h => by have := h.1; omega))
                have he : s j = ⟨#[]⟩ := ByteArray.ext (Array.eq_empty_of_size_eq_zero hZ)
                rw [he] at a0
                clear hfail he hZ
                go_wp2
                go_ret
                exact ⟨says_f HE.out, btwo HBV.out⟩
              · have hq0 := notEmpty (s j) (by omega)
                by_cases hT : (s j).size ≤ 1000
                · rcases Nat.eq_zero_or_pos j with h0 | h0
                  · subst h0
                    have HO := hid (show NmOk s 0 from ⟨by omega, hT, fun h => absurd h (Nat.lt_irrefl _)⟩)
                    go_wp2
                    go_roundw
                    case rel => exact ⟨0 + 1, by omega, by go_num, all_step HQ.out HO.out, HBV.out⟩
                    case measure => simp [intOf]; omega
                  · obtain ⟨p, rfl⟩ : ∃ p, j = p + 1 := ⟨j - 1, by omega⟩
                    have c0 := (HS.out.below (btwo HBV.out) hlN) p (by omega)
                    cases hL : Go.Op.bytesLess (s p).toList (s (p + 1)).toList
                    · have HE := hid (hfail.out (fun h => by have := h.2.2 (by omega); rw [Nat.add_sub_cancel] at this; unfold ltB at this; rw [hL] at this; cases this))
                      go_wp2
                      go_ret
                      exact ⟨says_f HE.out, btwo HBV.out⟩
                    · have HO := hid (show NmOk s (p + 1) from ⟨by omega, hT, fun _ => hL⟩)
                      go_wp2
                      go_roundw
                      case rel => exact ⟨p + 1 + 1, by omega, by go_num, all_step HQ.out HO.out, HBV.out⟩
                      case measure => simp [intOf]; omega
                · have HE := hid (hfail.out (fun h => hT h.2.1))
                  go_wp2
                  go_ret
                  exact ⟨says_f HE.out, btwo HBV.out⟩
            · obtain rfl : j = M := by omega
              have HO := hid (show WorldOk k j f s from ⟨h20, h60, HR.out, HQ.out⟩)
              go_wp2
              go_ret
              exact ⟨says_t HO.out, btwo HBV.out⟩
    · have HE := hid (show ¬ WorldOk N M f s from fun h => h60 h.2.1)
      go_enter Try.func7, Try.ntmps7
      go_wp2
      go_ret
      exact ⟨says_f HE.out, btwo HB0.out⟩
  · have HE := hid (show ¬ WorldOk N M f s from fun h => h20 h.1)
    go_enter Try.func7, Try.ntmps7
    go_wp2
    go_ret
    exact ⟨says_f HE.out, btwo HB0.out⟩
end Go.Proofs.Ytlgpbmnajlhaoaa
