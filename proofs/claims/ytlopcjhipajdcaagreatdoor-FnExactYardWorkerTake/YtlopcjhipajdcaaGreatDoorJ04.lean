import Derived.Deep.DeepCutAuto
import Derived.Test.YtlopcjhipajdcaaGreatDoorJ02
import Derived.Test.YtlopcjhipajdcaaGreatDoorJ03
/-! Names of files, by the program. -/
namespace Go.Proofs.YtlopcjhipajdcaaGreatDoor.J
open Go.RowKit
set_option maxRecDepth 20000
set_option maxHeartbeats 1000000 in
theorem implBeg_any (s : ByteArray) (w : World) (hs : s.size ≤ 1048576) :
    Calls Tryz.prog 147 #[.string s] w fun e w' => Says e (BegOk s) ∧ Below w.heap.size w w' := by
  have kc := fun (w : World) => run_bytes_of_string (P := Tryz.prog) w 9 112 5 s Tryz.underlying9 Tryz.underlying112 Tryz.underlying5

  go_enter Tryz.func147, Tryz.ntmps147
  go_wp2_with fail
  clear kc
  generalize hC : bytesRow s (grownCap w s.size 0 5) = C
  generalize grownCap w s.size 0 5 = cap at hC ⊢
  obtain ⟨w1, hw1⟩ : ∃ w1, (w.alloc (.cells C 5 (C.size, C.size + 1))).drew = w1 := ⟨_, rfl⟩
  have HX : Hid (∀ j (h : j < s.size), w1.cell? ⟨w.heap.size, j, none⟩ = some (.int .u8 (s[j].toNat : Int))) := fun j h => by
    subst hw1 hC
    exact (World.cell?_alloc_mark w _ _ _ j).trans (bytesRow_at s cap j h)
  have HB : Hid (Below w.heap.size w w1) := by subst hw1; exact ((Below.refl _ _).alloc (Nat.le_refl _) _).drew
  rw [hw1]
  clear hw1 hC
  go_loop [4, 8] (fun _ i => ∃ k : Nat, k ≤ s.size ∧ i = .int .i64 k ∧ ∀ j (h : j < s.size), j < k → 33 ≤ (s[j].toNat : Int) ∧ (s[j].toNat : Int) ≤ 126) (fun _ i => s.size - (intOf i).toNat)
  case atStart => exact ⟨0, Nat.zero_le _, rfl, fun j h h0 => absurd h0 (Nat.not_lt_zero _)⟩
  case round =>
    obtain ⟨k, hk, rfl, hr⟩ := hrel
    have HR := hid hr
    clear hr
    by_cases hlt : k < s.size
    · have x0 := HX.out k hlt
      by_cases hp : 33 ≤ (s[k].toNat : Int) ∧ (s[k].toNat : Int) ≤ 126
      · have NX : Hid (∀ j (h : j < s.size), j < k + 1 → 33 ≤ (s[j].toNat : Int) ∧ (s[j].toNat : Int) ≤ 126) := fun j h hj => by
          rcases Nat.lt_or_eq_of_le (Nat.lt_succ_iff.1 hj) with h' | h'
          · exact HR.out j h h'
          · subst h'; exact hp
        obtain ⟨p1, p2⟩ := hp
        go_wp2
        go_round
        case rel => exact ⟨k + 1, by omega, by go_num, NX.out⟩
        case measure => simp [intOf]; omega
      · have HE : Hid (¬ BegOk s) := fun h => hp (h.2 k hlt)
        have hp2 : (s[k].toNat : Int) < 33 ∨ 126 < (s[k].toNat : Int) := by omega
        clear hp
        rcases hp2 with hp | hp
        · go_wp2
          go_ret
          exact ⟨says_f HE.out, HB.out⟩
        · have hq : ¬ (s[k].toNat : Int) < 33 := by omega
          go_wp2
          go_ret
          exact ⟨says_f HE.out, HB.out⟩
    · go_wp2
      go_ret
      refine ⟨⟨_, rfl, ?_⟩, HB.out⟩
      rw [decide_eq_true_iff]
      exact ⟨fun h => ⟨by omega, fun i h => HR.out i h (by omega)⟩, fun h => by have := h.1; omega⟩
set_option maxHeartbeats 1000000 in
theorem implFile_any (s : ByteArray) (w : World) (hs : s.size ≤ 1048576) :
    Calls Tryz.prog 127 #[.string s] w fun e w' => Says e (FileOk s) ∧ Below w.heap.size w w' := by
  by_cases h0 : s.size = 0
  · have h1 : s.toList.isEmpty = true := by rw [isEmpty_iff]; simp [h0]
    go_enter Tryz.func127, Tryz.ntmps127
    go_wp2_with (go_at_call 147; refine (implBeg_any s _ hs).mono ?_; rintro e w' ⟨⟨b, rfl, hb⟩, hbw⟩)
    go_ret
    exact ⟨says_f fun h => by have := h.1; omega, Below.refl _ _⟩
  · have h1 : s.toList.isEmpty = false := by rw [isEmpty_iff]; simp [h0]
    go_enter Tryz.func127, Tryz.ntmps127
    go_wp2_with (go_at_call 147; refine (implBeg_any s _ hs).mono ?_; rintro e w' ⟨⟨b, rfl, hb⟩, hbw⟩)
    go_ret
    exact ⟨⟨b, rfl, hb.trans ⟨fun h => ⟨by omega, h⟩, fun h => h.2⟩⟩, hbw⟩
end Go.Proofs.YtlopcjhipajdcaaGreatDoor.J
