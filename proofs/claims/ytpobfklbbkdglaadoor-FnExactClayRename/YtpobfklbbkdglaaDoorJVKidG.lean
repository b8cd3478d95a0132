import Derived.Test.YtpobfklbbkdglaaDoorJVKidF
namespace Go.Proofs.YtpobfklbbkdglaaDoor
open Go.RowKit
set_option maxRecDepth 20000
theorem KidsOk_9 (m : Nat) (nd : Nat → Nd) : KidsOk 9 m nd ↔ m ≤ 200 ∧ (∀ i, i < m → (nd i).kind = 17) ∧ Apart m nd := by simp [KidsOk]
theorem KidsOk_15 (m : Nat) (nd : Nat → Nd) : KidsOk 15 m nd ↔ 1 ≤ m ∧ m ≤ 9 ∧ (∀ i, i + 1 < m → (nd i).kind = 19) ∧ isE (nd (m - 1)).kind = true := by simp [KidsOk]
theorem KidsOk_20 (m : Nat) (nd : Nat → Nd) : KidsOk 20 m nd ↔ 1 ≤ m ∧ m ≤ 9 ∧ (∀ i, i + 1 < m → (nd i).kind = 19) ∧ isE (nd (m - 1)).kind = true := by simp [KidsOk]
set_option maxHeartbeats 4000000 in
theorem KO_9 : KO 9 := by
  intro b N cap g o m c nd ks w hm hb hg hn hk
  have HN := hid hn
  have HK := hid hk
  clear hn hk
  go_enter Tryd.func44, Tryd.ntmps44
  go_wp2
  go_loopw [8, 10] (fun es i wr => ∃ j e : Nat, j ≤ m ∧ e ≤ j ∧ i = .int .i64 j ∧ es = .int .i64 e ∧ (e = j ↔ AllE j (fun i => nd (ks i))) ∧ Below (w.heap.size + 1) (w.alloc (.cells #[.slice (some ⟨b, 0, none⟩) N cap] 31)) wr) (fun _ i _ => m - (intOf i).toNat)
  case atStart => exact ⟨0, 0, Nat.zero_le _, Nat.zero_le _, rfl, rfl, ⟨fun _ i h => absurd h (Nat.not_lt_zero _), fun _ => rfl⟩, Below.refl _ _⟩
  case round =>
    obtain ⟨j, e, hj, he, rfl, rfl, hall, hbw⟩ := hrel
    have HALL := hid hall
    have HBW := hid hbw
    clear hall hbw
    by_cases hlt : j < m
    · have t0 := tree_cell HBW.out
      obtain ⟨a0, a1⟩ := (HK.out.below (btree HBW.out) hg) j hlt
      obtain ⟨a2, _⟩ := (HN.out.below (btree HBW.out) hb) (ks j) a1
      have HS := hid (AllE_step HALL.out he)
      cases hE : isE (nd (ks j)).kind
      · have NX := hid (HS.out.2 hE)
        clear HS
        go_wp2
        go_region_with (go_at_call 65; refine (l2E_any _ _).mono ?_; rintro e w' ⟨rfl, hw⟩; have hw2 := hw.symm; clear hw; subst hw2)
        all_goals go_wp2
        all_goals
          go_roundw
          case rel => exact ⟨j + 1, e, by omega, by omega, by go_num, rfl, NX.out, HBW.out.drew⟩
          case measure => simp [intOf]; omega
      · have NX := hid (HS.out.1 hE)
        clear HS
        go_wp2
        go_region_with (go_at_call 65; refine (l2E_any _ _).mono ?_; rintro e w' ⟨rfl, hw⟩; have hw2 := hw.symm; clear hw; subst hw2)
        all_goals go_wp2
        all_goals
          go_roundw
          case rel => exact ⟨j + 1, e + 1, by omega, by omega, by go_num, by go_num, NX.out, HBW.out.drew⟩
          case measure => simp [intOf]; omega
    · obtain rfl : j = m := by omega
      go_wp2
      go_loopw [16] (fun i wr => ∃ q : Nat, q ≤ j ∧ i = .int .i64 q ∧ (∀ i, i < q → (nd (ks i)).kind = 17) ∧ Below (w.heap.size + 1) (w.alloc (.cells #[.slice (some ⟨b, 0, none⟩) N cap] 31)) wr) (fun i _ => j - (intOf i).toNat)
      case atStart => exact ⟨0, Nat.zero_le _, rfl, fun i h => absurd h (Nat.not_lt_zero _), HBW.out⟩
      case round =>
        rename_i wo wr
        obtain ⟨q, hq, rfl, hin, hbw⟩ := hrel
        have HQ := hid hin
        have HB2 := hid hbw
        clear hin hbw
        by_cases hl2 : q < j
        · have t0 := tree_cell HB2.out
          obtain ⟨a0, a1⟩ := (HK.out.below (btree HB2.out) hg) q (by omega)
          obtain ⟨a2, _⟩ := (HN.out.below (btree HB2.out) hb) (ks q) a1
          cases hE : ((nd (ks q)).kind != 17)
          · have HF := hid (show (nd (ks q)).kind = 17 by simpa using hE)
            go_wp2
            try go_region
            all_goals go_wp2
            all_goals
              go_roundw
              case rel => exact ⟨q + 1, by omega, by go_num, all_step HQ.out HF.out, by first | exact HB2.out | exact HB2.out.drew⟩
              case measure => simp [intOf]; omega
          · have HF := hid (show ¬ (nd (ks q)).kind = 17 by simpa using hE)
            go_wp2
            try go_region
            all_goals go_wp2
            all_goals go_ret
            all_goals exact ⟨says_f (fun h => HF.out (((KidsOk_9 _ _).1 h).2.1 q (by omega))), by first | exact btree HB2.out | exact (btree HB2.out).drew⟩
        · obtain rfl : q = j := by omega
          have t0 := tree_cell HB2.out
          have hz := HB2.out.size
          rw [World.size_alloc] at hz
          by_cases h200 : q ≤ 200
          · go_wp2_with (go_at_call 66; refine (l2Apart_any b N cap g o q c nd ks _ (by omega) (by omega) (by omega) (HN.out.below (btree HB2.out) hb) (HK.out.below (btree HB2.out) hg)).mono ?_; rintro e w1 ⟨hs, hb1⟩; rcases hs.get with ⟨rfl, hp⟩ | ⟨rfl, hp⟩)
            all_goals go_ret
            · exact ⟨says_t ((KidsOk_9 _ _).2 ⟨h200, HQ.out, hp⟩), (btree HB2.out).trans (hb1.mono (by omega))⟩
            · exact ⟨says_f (fun h => hp ((KidsOk_9 _ _).1 h).2.2), (btree HB2.out).trans (hb1.mono (by omega))⟩
          · go_wp2
            go_ret
            exact ⟨says_f (fun h => h200 ((KidsOk_9 _ _).1 h).1), btree HB2.out⟩
end Go.Proofs.YtpobfklbbkdglaaDoor
