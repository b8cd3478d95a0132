import Derived.Laws.IdiomStrings
import Derived.Test.YtlopcjhipajdcaaGreatDoorJ01
/-! Names of files, by both sides; a reply. -/
namespace Go.Proofs.YtlopcjhipajdcaaGreatDoor.J
open Go.RowKit
set_option maxRecDepth 20000
/-- A text of at most 60 bytes, each 33 to 126. -/
def BegOk (s : ByteArray) : Prop := s.size ≤ 60 ∧ ∀ i (h : i < s.size), 33 ≤ (s[i].toNat : Int) ∧ (s[i].toNat : Int) ≤ 126
def FileOk (s : ByteArray) : Prop := 1 ≤ s.size ∧ BegOk s
set_option maxHeartbeats 1000000 in
theorem l15Prefix_any (s : ByteArray) (w : World) (hs : s.size ≤ maxLen) :
    Calls Tryz.prog 80 #[.string s] w fun e w' => Says e (BegOk s) ∧ w' = w := by
  unfold maxLen at hs
  have hs' : s.size ≤ 9223372036854775807 := by simpa using hs
  clear hs
  by_cases h1 : s.size ≤ 60
  · go_enter Tryz.func80, Tryz.ntmps80
    go_wp2
    go_loop [3] (fun i => ∃ k : Nat, k ≤ s.size ∧ i = .int .i64 k ∧ ∀ j (h : j < s.size), j < k → 33 ≤ (s[j].toNat : Int) ∧ (s[j].toNat : Int) ≤ 126) (fun i => s.size - (intOf i).toNat)
    case atStart => exact ⟨0, Nat.zero_le _, rfl, fun j h h0 => absurd h0 (Nat.not_lt_zero _)⟩
    case round =>
      obtain ⟨k, hk, rfl, hr⟩ := hrel
      have HR := hid hr
      clear hr
      by_cases hlt : k < s.size
      · by_cases hp : 33 ≤ (s[k].toNat : Int) ∧ (s[k].toNat : Int) ≤ 126
        · have NX : Hid (∀ j (h : j < s.size), j < k + 1 → 33 ≤ (s[j].toNat : Int) ∧ (s[j].toNat : Int) ≤ 126) := fun j h hj => by
            rcases Nat.lt_or_eq_of_le (Nat.lt_succ_iff.1 hj) with h' | h'
            · exact HR.out j h h'
            · subst h'; exact hp
          obtain ⟨p1, p2⟩ := hp
          go_wp2
          go_round
          case rel => exact ⟨k + 1, by omega, by go_num, NX.out⟩
          case measure => simp [intOf]; omega
        · have HE : Hid (¬ BegOk s) := fun h => hp (h.2 k hlt)
          have hp2 : (s[k].toNat : Int) < 33 ∨ 126 < (s[k].toNat : Int) := by omega
          clear hp
          rcases hp2 with hp | hp
          · go_wp2
            go_ret
            exact ⟨says_f HE.out, rfl⟩
          · have hq : ¬ (s[k].toNat : Int) < 33 := by omega
            go_wp2
            go_ret
            exact ⟨says_f HE.out, rfl⟩
      · go_wp2
        go_ret
        exact ⟨says_t ⟨h1, fun i h => HR.out i h (by omega)⟩, rfl⟩
  · go_enter Tryz.func80, Tryz.ntmps80
    go_wp2
    go_ret
    exact ⟨says_f fun h => h1 h.1, rfl⟩
set_option maxHeartbeats 1000000 in
theorem l15Path_any (s : ByteArray) (w : World) (hs : s.size ≤ maxLen) :
    Calls Tryz.prog 49 #[.string s] w fun e w' => Says e (FileOk s) ∧ w' = w := by
  have hs2 := hs
  unfold maxLen at hs
  have hs' : s.size ≤ 9223372036854775807 := by simpa using hs
  clear hs
  by_cases h1 : 1 ≤ s.size
  · go_enter Tryz.func49, Tryz.ntmps49
    go_wp2_with (go_at_call 80; refine (l15Prefix_any s _ hs2).mono ?_; rintro e w' ⟨⟨b, rfl, hb⟩, rfl⟩)
    all_goals go_ret
    all_goals exact ⟨⟨b, rfl, hb.trans ⟨fun h => ⟨h1, h⟩, fun h => h.2⟩⟩, rfl⟩
  · go_enter Tryz.func49, Tryz.ntmps49
    go_wp2_with (go_at_call 80; refine (l15Prefix_any s _ hs2).mono ?_; rintro e w' ⟨⟨b, rfl, hb⟩, rfl⟩)
    all_goals go_ret
    all_goals exact ⟨says_f fun h => h1 h.1, rfl⟩
end Go.Proofs.YtlopcjhipajdcaaGreatDoor.J
