import Derived.Test.YtpobfklbbkdglaaDoorJBase
namespace Go.Proofs.YtpobfklbbkdglaaDoor
open Go.RowKit
set_option maxRecDepth 20000
set_option maxHeartbeats 4000000 in
theorem l2Plain_E (k : Int) (hk : k < 1 ∨ 24 < k) : Pl1 k := by
  intro op n kids t w ht
  unfold ndV
  have HT := hid ht
  clear ht
  have e2 : (k == 2) = false := by simp; omega
  have n2 : (k != 2) = true := by simp; omega
  have q2 : ¬ k = 2 := by omega
  have e3 : (k == 3) = false := by simp; omega
  have n3 : (k != 3) = true := by simp; omega
  have q3 : ¬ k = 3 := by omega
  have e4 : (k == 4) = false := by simp; omega
  have n4 : (k != 4) = true := by simp; omega
  have q4 : ¬ k = 4 := by omega
  have e5 : (k == 5) = false := by simp; omega
  have n5 : (k != 5) = true := by simp; omega
  have q5 : ¬ k = 5 := by omega
  have e6 : (k == 6) = false := by simp; omega
  have n6 : (k != 6) = true := by simp; omega
  have q6 : ¬ k = 6 := by omega
  have e7 : (k == 7) = false := by simp; omega
  have n7 : (k != 7) = true := by simp; omega
  have q7 : ¬ k = 7 := by omega
  have e11 : (k == 11) = false := by simp; omega
  have n11 : (k != 11) = true := by simp; omega
  have q11 : ¬ k = 11 := by omega
  have e14 : (k == 14) = false := by simp; omega
  have n14 : (k != 14) = true := by simp; omega
  have q14 : ¬ k = 14 := by omega
  have e17 : (k == 17) = false := by simp; omega
  have n17 : (k != 17) = true := by simp; omega
  have q17 : ¬ k = 17 := by omega
  have e23 : (k == 23) = false := by simp; omega
  have n23 : (k != 23) = true := by simp; omega
  have q23 : ¬ k = 23 := by omega
  have r1 : (decide (16 ≤ k) && decide (k ≤ 21)) = false := by simp; omega
  have r2 : 16 ≤ k → 21 < k := by omega
  clear hk
  go_enter Tryd.func43, Tryd.ntmps43
  go_wp2_with (first
    | (go_at_call 32; refine (l1In_dec _ _ _ _).mono ?_; rintro e w' ⟨rfl, rfl⟩)
    | (go_at_call 64; refine (l2Package_any t _ HT.out).mono ?_; rintro e w' ⟨hs, rfl⟩; rcases hs.get with ⟨rfl, hp⟩ | ⟨rfl, hp⟩)
    | (go_at_call 33; refine (l1NameOk_any t _ HT.out).mono ?_; rintro e w1 ⟨hs, hb⟩; rcases hs.get with ⟨rfl, hp⟩ | ⟨rfl, hp⟩))
  all_goals go_ret
  all_goals refine ⟨⟨_, rfl, ?_⟩, ?_⟩
  all_goals first
    | exact (Below.refl w.heap.size w).alloc (Nat.le_refl _) _
    | exact Below.trans ((Below.refl w.heap.size w).alloc (Nat.le_refl _) _) (Below.mono hb (B' := w.heap.size) (by simp))
    | (simp [PlainNd, hasText, inR, *]; done)
    | ((try simp only [bne_iff_ne, bne_eq_false_iff_eq, ne_eq] at *); (try simp [PlainNd, hasText, inR, *]); done)
end Go.Proofs.YtpobfklbbkdglaaDoor
