import Derived.Deep.RegionWith
import Derived.Test.YtbakebdfmdepnaaGreatDoorJ01
namespace Go.Proofs.YtbakebdfmdepnaaGreatDoor
open Go.RowKit
set_option maxRecDepth 20000
set_option maxHeartbeats 4000000 in
theorem l2Plain_A (k : Int) (hk : k = 1 ∨ k = 2 ∨ k = 3 ∨ k = 4 ∨ k = 5 ∨ k = 6) : Pl1 k := by
 intro op n kids t w ht
 unfold ndV
 have HT := hid ht
 clear ht
 rcases hk with rfl | rfl | rfl | rfl | rfl | rfl
 all_goals
  go_enter Tryz.func25, Tryz.ntmps25
  go_wp2_with (first
   | (go_at_call 23; refine (l1In_dec _ _ _ _).mono ?_; rintro e w' ⟨rfl, rfl⟩)
   | (go_at_call 45; refine (l2Package_any t _ HT.out).mono ?_; rintro e w' ⟨hs, rfl⟩; rcases hs.get with ⟨rfl, hp⟩ | ⟨rfl, hp⟩)
   | (go_at_call 46; refine (l1NameOk_any t _ HT.out).mono ?_; rintro e w1 ⟨hs, hb⟩; rcases hs.get with ⟨rfl, hp⟩ | ⟨rfl, hp⟩))
  all_goals go_ret
  all_goals refine ⟨⟨_, rfl, ?_⟩, ?_⟩
  all_goals first
   | exact (Below.refl w.heap.size w).alloc (Nat.le_refl _) _
   | exact Below.trans ((Below.refl w.heap.size w).alloc (Nat.le_refl _) _) (Below.mono hb (B' := w.heap.size) (by simp))
   | (simp [PlainNd, hasText, inR, *]; done)
   | ((try simp only [bne_iff_ne, bne_eq_false_iff_eq, ne_eq] at *); (try simp [PlainNd, hasText, inR, *]); done)
   | ((try simp only [bne_eq_false_iff_eq] at *); (try simp [PlainNd, hasText, inR, *]); omega)
def KO (kind : Int) : Prop := ∀ (b N cap g o m c : Nat) (nd : Nat → Nd) (ks : Nat → Nat) (w : World), m ≤ 1000000 → b < w.heap.size → g < w.heap.size → NodesAt w b N nd → PlacesAt w g o m N ks →
  Calls Tryz.prog 26 #[.agg #[.slice (some ⟨b, 0, none⟩) N cap], .int .i64 kind, .slice (some ⟨g, o, none⟩) m c] w fun e w' => Says e (KidsOk kind m (fun i => nd (ks i))) ∧ Below w.heap.size w w'
theorem AllE_step {j e : Nat} {nd : Nat → Nd} (h : e = j ↔ AllE j nd) (he : e ≤ j) : (isE (nd j).kind = true → (e + 1 = j + 1 ↔ AllE (j + 1) nd)) ∧ (isE (nd j).kind = false → (e = j + 1 ↔ AllE (j + 1) nd)) := by
 constructor
 ·intro hE
  constructor
  ·intro h1 i hi
   rcases Nat.lt_or_eq_of_le (Nat.lt_succ_iff.1 hi) with h2 | h2
   ·exact h.1 (by omega) i h2
   ·subst h2; exact hE
  ·intro h1
   rw [h.2 (fun i hi => h1 i (by omega))]
 ·intro hE
  constructor
  ·intro h1; omega
  ·intro h1; have := h1 j (by omega); rw [hE] at this; cases this
set_option maxHeartbeats 4000000 in
theorem KO_A (kind : Int) (hkind : kind = 1 ∨ kind = 6 ∨ kind = 16) : KO kind := by
 intro b N cap g o m c nd ks w hm hb hg hn hk
 have HN := hid hn
 have HK := hid hk
 clear hn hk
 go_enter Tryz.func26, Tryz.ntmps26
 go_wp2
 go_loopw [8, 10] (fun es i wr => ∃ j e : Nat, j ≤ m ∧ e ≤ j ∧ i = .int .i64 j ∧ es = .int .i64 e ∧ (e = j ↔ AllE j (fun i => nd (ks i))) ∧ Below (w.heap.size + 1) (w.alloc (.cells #[.slice (some ⟨b, 0, none⟩) N cap] 25)) wr) (fun _ i _ => m - (intOf i).toNat)
 case atStart => exact ⟨0, 0, Nat.zero_le _, Nat.zero_le _, rfl, rfl, ⟨fun _ i h => absurd h (Nat.not_lt_zero _), fun _ => rfl⟩, Below.refl _ _⟩
 case round =>
  obtain ⟨j, e, hj, he, rfl, rfl, hall, hbw⟩ := hrel
  have HALL := hid hall
  have HBW := hid hbw
  clear hall hbw
  by_cases hlt : j < m
  ·have t0 := tree_cell HBW.out
   obtain ⟨a0, a1⟩ := (HK.out.below (btree HBW.out) hg) j hlt
   obtain ⟨a2, _⟩ := (HN.out.below (btree HBW.out) hb) (ks j) a1
   have HS := hid (AllE_step HALL.out he)
   cases hE : isE (nd (ks j)).kind
   ·have NX := hid (HS.out.2 hE)
    clear HS
    go_wp2
    go_region_with (go_at_call 47; refine (l2E_any _ _).mono ?_; rintro e w' ⟨rfl, hw⟩; have hw2 := hw.symm; clear hw; subst hw2)
    all_goals go_wp2
    all_goals
     go_roundw
     case rel => exact ⟨j + 1, e, by omega, by omega, by go_num, rfl, NX.out, HBW.out.drew⟩
     case measure => simp [intOf]; omega
   ·have NX := hid (HS.out.1 hE)
    clear HS
    go_wp2
    go_region_with (go_at_call 47; refine (l2E_any _ _).mono ?_; rintro e w' ⟨rfl, hw⟩; have hw2 := hw.symm; clear hw; subst hw2)
    all_goals go_wp2
    all_goals
     go_roundw
     case rel => exact ⟨j + 1, e + 1, by omega, by omega, by go_num, by go_num, NX.out, HBW.out.drew⟩
     case measure => simp [intOf]; omega
  ·obtain rfl : j = m := by omega
   rcases hkind with rfl | rfl | rfl
   all_goals go_wp2
   all_goals go_ret
   all_goals refine ⟨⟨_, rfl, ?_⟩, btree HBW.out⟩
   all_goals simp [KidsOk, ← HALL.out, *]
   all_goals omega
end Go.Proofs.YtbakebdfmdepnaaGreatDoor
