import Derived.Test.YtpobfklbbkdglaaDoorJVKidA
namespace Go.Proofs.YtpobfklbbkdglaaDoor
open Go.RowKit
set_option maxRecDepth 20000
set_option maxHeartbeats 4000000 in
theorem KO_D (kind : Int) (hkind : kind = 18 ∨ kind = 19 ∨ kind = 21 ∨ kind = 22) : KO kind := by
  intro b N cap g o m c nd ks w hm hb hg hn hk
  have HN := hid hn
  have HK := hid hk
  clear hn hk
  go_enter Tryd.func44, Tryd.ntmps44
  go_wp2
  go_loopw [8, 10] (fun es i wr => ∃ j e : Nat, j ≤ m ∧ e ≤ j ∧ i = .int .i64 j ∧ es = .int .i64 e ∧ (e = j ↔ AllE j (fun i => nd (ks i))) ∧ Below (w.heap.size + 1) (w.alloc (.cells #[.slice (some ⟨b, 0, none⟩) N cap] 31)) wr) (fun _ i _ => m - (intOf i).toNat)
  case atStart => exact ⟨0, 0, Nat.zero_le _, Nat.zero_le _, rfl, rfl, ⟨fun _ i h => absurd h (Nat.not_lt_zero _), fun _ => rfl⟩, Below.refl _ _⟩
  case round =>
    obtain ⟨j, e, hj, he, rfl, rfl, hall, hbw⟩ := hrel
    have HALL := hid hall
    have HBW := hid hbw
    clear hall hbw
    by_cases hlt : j < m
    · have t0 := tree_cell HBW.out
      obtain ⟨a0, a1⟩ := (HK.out.below (btree HBW.out) hg) j hlt
      obtain ⟨a2, _⟩ := (HN.out.below (btree HBW.out) hb) (ks j) a1
      have HS := hid (AllE_step HALL.out he)
      cases hE : isE (nd (ks j)).kind
      · have NX := hid (HS.out.2 hE)
        clear HS
        go_wp2
        go_region_with (go_at_call 65; refine (l2E_any _ _).mono ?_; rintro e w' ⟨rfl, hw⟩; have hw2 := hw.symm; clear hw; subst hw2)
        all_goals go_wp2
        all_goals
          go_roundw
          case rel => exact ⟨j + 1, e, by omega, by omega, by go_num, rfl, NX.out, HBW.out.drew⟩
          case measure => simp [intOf]; omega
      · have NX := hid (HS.out.1 hE)
        clear HS
        go_wp2
        go_region_with (go_at_call 65; refine (l2E_any _ _).mono ?_; rintro e w' ⟨rfl, hw⟩; have hw2 := hw.symm; clear hw; subst hw2)
        all_goals go_wp2
        all_goals
          go_roundw
          case rel => exact ⟨j + 1, e + 1, by omega, by omega, by go_num, by go_num, NX.out, HBW.out.drew⟩
          case measure => simp [intOf]; omega
    · obtain rfl : j = m := by omega
      rcases hkind with rfl | rfl | rfl | rfl
      all_goals go_wp2
      all_goals go_ret
      all_goals refine ⟨⟨_, rfl, ?_⟩, btree HBW.out⟩
      all_goals simp [KidsOk, ← HALL.out, *]
      all_goals omega
end Go.Proofs.YtpobfklbbkdglaaDoor
