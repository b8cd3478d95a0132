import Derived.Test.YtlopcjhipajdcaaGreatDoorJ07
/-! Sizes. -/
namespace Go.Proofs.YtlopcjhipajdcaaGreatDoor.R
open Go.RowKit
set_option maxRecDepth 20000
set_option maxHeartbeats 2000000 in
theorem szSStr_any (l : List ByteArray) {v : Value} (m : Int) (w : World) (hl : 0 ≤ m) (hl2 : m ≤ 1048576) (hx : OkStrS l) (k0 : SStrA w v l) :
    Calls Tryz.prog 58 #[v, .int .i64 m] w (SzEnd m (wSStr l l.length) w) := by
  have HX := hid hx.2
  have hN := small hx.1
  have HK := hid k0
  obtain ⟨ad, cap, rfl⟩ := k0.sl
  clear hx k0
  by_cases h1 : m - (l.length : Int) < 0
  · go_enter Tryz.func58, Tryz.ntmps58
    go_wp2
    go_ret
    exact ⟨⟨_, rfl, by omega, by omega, fun h => by omega⟩, Below.refl _ _⟩
  · go_enter Tryz.func58, Tryz.ntmps58
    go_wp2
    go_loopw [1, 5] (fun q i wr => ∃ (j : Nat) (r : Int), j ≤ l.length ∧ i = .int .i64 j ∧ q = .int .i64 r ∧ 0 ≤ r ∧ r ≤ m ∧ (Hid (r + (l.length : Int) + (wSStr l j : Int) = m + (j : Int))) ∧ Below w.heap.size w wr) (fun _ i _ => l.length - (intOf i).toNat)
    case atStart => exact ⟨0, _, Nat.zero_le _, rfl, rfl, by omega, by omega, (by show _ = _; simp [wSStr]), Below.refl _ _⟩
    case round =>
      obtain ⟨j, r, hj, rfl, rfl, hr0, hr1, HS, hbw⟩ := hrel
      have HBW := hid hbw
      clear hbw
      by_cases hlt : j < l.length
      · obtain ⟨a, c, e9, hal, c0⟩ := (HK.out.next HBW.out).at hlt
        injection e9 with ea en ec
        clear en
        subst ea ec
        have c1 := small (HX.out j hlt)
        obtain ⟨x, hx⟩ : ∃ x, l.getD j ⟨#[]⟩ = x := ⟨_, rfl⟩
        have HXE := hid hx
        rw [hx] at c0 c1
        clear hx
        unfold StrA at c0
        by_cases hs : r - (x.size : Int) < 0
        · go_wp2
          go_ret
          exact ⟨⟨-1, rfl, by omega, by omega, fun h => by omega⟩, HBW.out⟩
        · obtain ⟨r2, hr2⟩ : ∃ r2, r - (x.size : Int) = r2 := ⟨_, rfl⟩
          have hr3 : 0 ≤ r2 := by omega
          have hr4 : r2 ≤ m := by omega
          have HS2 : Hid (r2 + (l.length : Int) + (wSStr l (j + 1) : Int) = m + ((j + 1 : Nat) : Int)) := by
            show _ = _
            have := HS.out
            simp only [wSStr, HXE.out]
            omega
          go_wp2
          go_roundw
          case rel => exact ⟨j + 1, r2, by omega, by go_num, by go_num, hr3, hr4, HS2, HBW.out⟩
          case measure => simp [intOf]; omega
      · obtain rfl : j = l.length := by omega
        go_wp2
        go_ret
        exact ⟨⟨r, rfl, by omega, hr1, fun _ => by have := HS.out; omega⟩, HBW.out⟩
end Go.Proofs.YtlopcjhipajdcaaGreatDoor.R
