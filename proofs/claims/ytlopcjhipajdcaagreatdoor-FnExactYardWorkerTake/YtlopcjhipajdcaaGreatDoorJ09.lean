import Derived.Deep.RegionHeld3
import Derived.Test.YtlopcjhipajdcaaGreatDoorJ08
import Derived.Test.YtlopcjhipajdcaaGreatDoorJ04
/-! Leaves of both sides: between, sameness of texts, a look. -/
namespace Go.Proofs.YtlopcjhipajdcaaGreatDoor.Y
open Go.RowKit R
open Go.Proofs.YtlopcjhipajdcaaGreatDoor.J (FileOk BegOk RepOk ltB Says says_t says_f l15Path_any l15Prefix_any specReply_any)
set_option maxRecDepth 20000
set_option maxHeartbeats 1000000 in
theorem l26In_any (n a b : Int) (w : World) : Calls Tryz.prog 18 #[.int .i64 n, .int .i64 a, .int .i64 b] w fun e w' => Says e (a ≤ n ∧ n ≤ b) ∧ w' = w := by
  by_cases h1 : a ≤ n
  · by_cases h2 : n ≤ b
    · go_enter Tryz.func18, Tryz.ntmps18
      go_wp2
      go_ret
      exact ⟨says_t ⟨h1, h2⟩, rfl⟩
    · go_enter Tryz.func18, Tryz.ntmps18
      go_wp2
      go_ret
      exact ⟨says_f fun h => by omega, rfl⟩
  · go_enter Tryz.func18, Tryz.ntmps18
    go_wp2
    go_ret
    exact ⟨says_f fun h => by omega, rfl⟩
set_option maxHeartbeats 1000000 in
theorem within_any (n a b : Int) (w : World) : Calls Tryz.prog 53 #[.int .i64 n, .int .i64 a, .int .i64 b] w fun e w' => Says e (a ≤ n ∧ n ≤ b) ∧ w' = w := by
  by_cases h1 : a ≤ n
  · by_cases h2 : n ≤ b
    · go_enter Tryz.func53, Tryz.ntmps53
      go_wp2
      go_ret
      exact ⟨says_t ⟨h1, h2⟩, rfl⟩
    · go_enter Tryz.func53, Tryz.ntmps53
      go_wp2
      go_ret
      exact ⟨says_f fun h => by omega, rfl⟩
  · go_enter Tryz.func53, Tryz.ntmps53
    go_wp2
    go_ret
    exact ⟨says_f fun h => by omega, rfl⟩
set_option maxHeartbeats 1000000 in
theorem isWorker_any (n : Int) (w : World) : Calls Tryz.prog 21 #[.int .i64 n] w fun e w' => Says e (1 ≤ n ∧ n ≤ 4) ∧ w' = w := by
  go_enter Tryz.func21, Tryz.ntmps21
  go_wp2_with (go_at_call 53; refine (within_any n 1 4 _).mono ?_; rintro e w' ⟨⟨b, rfl, hb⟩, rfl⟩)
  go_ret
  exact ⟨⟨b, rfl, hb⟩, rfl⟩
set_option maxHeartbeats 1000000 in
theorem isTime_any (n m : Int) (w : World) : Calls Tryz.prog 120 #[.int .i64 n, .int .i64 m] w fun e w' => Says e ((1 ≤ n ∧ n ≤ 200) ∧ 0 ≤ m ∧ m ≤ 1000) ∧ w' = w := by
  by_cases h1 : 1 ≤ n ∧ n ≤ 200
  · by_cases h2 : 0 ≤ m ∧ m ≤ 1000
    · have H1 := hid h1
      have H2 := hid h2
      clear h1 h2
      go_enter Tryz.func120, Tryz.ntmps120
      go_wp2_with (go_at_call 53; refine (within_any _ _ _ _).mono ?_; rintro e w' ⟨hs, rfl⟩; first | (have hq := hs.pos H1.out; obtain rfl := hq; clear hs) | (have hq := hs.pos H2.out; obtain rfl := hq; clear hs))
      go_ret
      exact ⟨says_t ⟨H1.out, H2.out⟩, rfl⟩
    · have H1 := hid h1
      have H2 := hid h2
      clear h1 h2
      go_enter Tryz.func120, Tryz.ntmps120
      go_wp2_with (go_at_call 53; refine (within_any _ _ _ _).mono ?_; rintro e w' ⟨hs, rfl⟩; first | (have hq := hs.pos H1.out; obtain rfl := hq; clear hs) | (have hq := hs.neg H2.out; obtain rfl := hq; clear hs))
      go_ret
      exact ⟨says_f fun h => H2.out h.2, rfl⟩
  · have H1 := hid h1
    clear h1
    go_enter Tryz.func120, Tryz.ntmps120
    go_wp2_with (go_at_call 53; refine (within_any _ _ _ _).mono ?_; rintro e w' ⟨hs, rfl⟩; have hq := hs.neg H1.out; obtain rfl := hq; clear hs)
    go_ret
    exact ⟨says_f fun h => H1.out h.1, rfl⟩
theorem texts_eq {a b : ByteArray} : (a.toList == b.toList) = decide (a = b) := by
  rw [Bool.eq_iff_iff, decide_eq_true_iff]
  exact ⟨fun h => J.bytes_eq h, fun h => by rw [h]; simp⟩
set_option maxHeartbeats 2000000 in
/-- Two rows of texts are the same: the program's slices.Equal, where both hold the same. -/
theorem equalT_same (l : List ByteArray) {u v : Value} (w : World) (hl : l.length ≤ 1048576) (k0 : SStrA w u l) (k1 : SStrA w v l) :
    Calls Tryz.prog 82 #[u, v] w fun e w' => e = .returned (.bool true) ∧ Below w.heap.size w w' := by
  have H1 := hid k0
  have H2 := hid k1
  obtain ⟨ad, cp, rfl⟩ := k0.sl
  obtain ⟨ae, cq, rfl⟩ := k1.sl
  clear k0 k1
  have hne : ((l.length : Int) != (l.length : Int)) = false := by simp
  go_enter Tryz.func82, Tryz.ntmps82
  go_wp2
  go_loopw [5, 13] (fun _ i wr => ∃ j : Nat, j ≤ l.length ∧ i = .int .i64 j ∧ Below w.heap.size w wr) (fun _ i _ => l.length - (intOf i).toNat)
  case atStart => exact ⟨0, Nat.zero_le _, rfl, Below.refl _ _⟩
  case round =>
    obtain ⟨j, hj, rfl, hbw⟩ := hrel
    have HBW := hid hbw
    clear hbw
    by_cases hlt : j < l.length
    · obtain ⟨a, c, e9, hal, c0⟩ := (H1.out.next HBW.out).at hlt
      injection e9 with ea en ec
      subst ea ec
      obtain ⟨b, d, e8, hbl, d0⟩ := (H2.out.next HBW.out).at hlt
      injection e8 with eb en2 ed
      subst eb ed
      clear en en2
      obtain ⟨x, hx⟩ : ∃ x, l.getD j ⟨#[]⟩ = x := ⟨_, rfl⟩
      rw [hx] at c0 d0
      unfold StrA at c0 d0
      have h5 : (x.toList != x.toList) = false := by simp
      go_wp2_with fail
      go_quiet (fail)
      go_wp2
      go_roundw
      case rel => exact ⟨j + 1, by omega, by go_num, below_drewN HBW.out nq⟩
      case measure => simp [intOf]; omega
    · obtain rfl : j = l.length := by omega
      go_wp2
      go_ret
      exact ⟨rfl, HBW.out⟩
set_option maxHeartbeats 2000000 in
/-- The model's sameness of texts: with nothing. -/
theorem sameTexts_none (l : List ByteArray) {u : Value} (w : World) (hl : l.length ≤ 1048576) (k0 : SStrA w u l) :
    Calls Tryz.prog 76 #[u, .slice none 0 0] w fun e w' => Says e (l = []) ∧ Below w.heap.size w w' := by
  obtain ⟨ad, cp, rfl⟩ := k0.sl
  clear k0
  by_cases h0 : l = []
  · subst h0
    go_enter Tryz.func76, Tryz.ntmps76
    go_wp2
    go_loopw [5] (fun i wr => i = .int .i64 0 ∧ wr = w) (fun _ _ => 0)
    case atStart => exact ⟨rfl, rfl⟩
    case round =>
      obtain ⟨rfl, rfl⟩ := hrel
      go_wp2
      go_ret
      exact ⟨says_t trivial, Below.refl _ _⟩
  · have hn : l.length ≠ 0 := fun h => h0 (List.eq_nil_of_length_eq_zero h)
    have hne : ((l.length : Int) != 0) = true := by simp; omega
    go_enter Tryz.func76, Tryz.ntmps76
    go_wp2
    go_ret
    exact ⟨says_f h0, Below.refl _ _⟩
end Go.Proofs.YtlopcjhipajdcaaGreatDoor.Y
