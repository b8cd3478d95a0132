import Derived.Test.YtjbhadpdbcelcaaDoorQKo
import Derived.Test.YtjbhadpdbcelcaaDoorQName
import Derived.Test.YtjbhadpdbcelcaaDoorQRow
/-! Printed by gen_fit.py. -/
namespace Go.Proofs.YtjbhadpdbcelcaaDoor.Q
open Go.RowKit Go.Shelf
set_option maxRecDepth 20000
/-- A row of m numbers in block g. -/
def IntsAt (W : World) (g m : Nat) (kd : Nat → Int) : Prop := ∀ i, i < m → W.cell? ⟨g, i, none⟩ = some (.int .i64 (kd i))
theorem IntsAt.below {W W' : World} {B g m : Nat} {kd : Nat → Int} (h : IntsAt W g m kd) (hb : Below B W W') (hB : g < B) : IntsAt W' g m kd := fun i hi => (hb.cell (p := ⟨g, i, none⟩) hB).trans (h i hi)
set_option maxHeartbeats 400000 in
theorem l11E_any (k : Int) (w : World) :
    Calls Tryd.prog 25 #[.int .i64 k] w fun e w' => e = .returned (.bool (decide (1 ≤ k) && decide (k ≤ 9))) ∧ w' = w := by
  go_enter Tryd.func25, Tryd.ntmps25
  go_wp2
  all_goals go_ret
  all_goals exact ⟨ret_bool (by rw [Bool.eq_iff_iff]; simp; try omega), rfl⟩
set_option maxHeartbeats 400000 in
theorem l11S_any (k : Int) (w : World) :
    Calls Tryd.prog 28 #[.int .i64 k] w fun e w' => e = .returned (.bool (decide (10 ≤ k) && decide (k ≤ 20))) ∧ w' = w := by
  go_enter Tryd.func28, Tryd.ntmps28
  go_wp2
  all_goals go_ret
  all_goals exact ⟨ret_bool (by rw [Bool.eq_iff_iff]; simp; try omega), rfl⟩
set_option maxHeartbeats 400000 in
theorem l11AllE_any (g m c : Nat) (kd : Nat → Int) (w : World) (hm : m ≤ 12001) (hs : IntsAt w g m kd) :
    Calls Tryd.prog 26 #[.slice (some ⟨g, 0, none⟩) m c] w fun e w' => Says e (AllE m kd) ∧ w' = w := by
  have HS := hid hs
  clear hs
  go_enter Tryd.func26, Tryd.ntmps26
  go_wp2
  go_loop [3] (fun i => ∃ j : Nat, j ≤ m ∧ i = .int .i64 j ∧ AllE j kd) (fun i => m - (intOf i).toNat)
  case atStart => exact ⟨0, Nat.zero_le _, rfl, fun i h => absurd h (Nat.not_lt_zero _)⟩
  case round =>
    obtain ⟨j, hj, rfl, hin⟩ := hrel
    have HIN := hid hin
    clear hin
    by_cases hlt : j < m
    · have c0 := HS.out j hlt
      cases hE : (decide (1 ≤ kd j) && decide (kd j ≤ 9))
      · have HF : Hid (¬ AllE m kd) := fun h => by have := (eBool _).2 (h j hlt); rw [hE] at this; cases this
        go_wp2_with (go_at_call 25; refine (l11E_any _ _).mono ?_; rintro e w' ⟨rfl, hw⟩; have hw2 := hw.symm; clear hw; subst hw2; rw [hE])
        go_ret
        exact ⟨says_f HF.out, rfl⟩
      · have HX := hid (all_step (P := fun i => mE (kd i)) HIN.out ((eBool _).1 hE))
        go_wp2_with (go_at_call 25; refine (l11E_any _ _).mono ?_; rintro e w' ⟨rfl, hw⟩; have hw2 := hw.symm; clear hw; subst hw2; rw [hE])
        go_round
        case rel => exact ⟨j + 1, by omega, by go_num, HX.out⟩
        case measure => simp [intOf]; omega
    · obtain rfl : j = m := by omega
      go_wp2
      go_ret
      exact ⟨says_t HIN.out, rfl⟩
/-- What l11Fits owes for a kind. -/
def FI (k : Int) : Prop := ∀ (op ty n kids : Int) (t : ByteArray) (g m c : Nat) (kd : Nat → Int) (w : World), m ≤ 12001 → (k = 8 → 1 ≤ op ∧ op ≤ 12) → g < w.heap.size → IntsAt w g m kd →
    Calls Tryd.prog 12 #[ndV ⟨k, op, ty, n, t, kids⟩, .slice (some ⟨g, 0, none⟩) m c] w fun e w' => Says e (KidsOk ⟨k, op, ty, n, t, kids⟩ m kd) ∧ Below w.heap.size w w'
end Go.Proofs.YtjbhadpdbcelcaaDoor.Q
