import Derived.Test.YtfookokepnnmoaaDoorJDBase
/-! Texts that are drawn. -/
namespace Go.Proofs.YtfookokepnnmoaaDoor
open Go.RowKit
set_option maxRecDepth 20000
set_option maxHeartbeats 2000000 in
theorem l1Many_any (s : ByteArray) (n : Nat) (w : World) (h : s.size * n ≤ 2000) (hn : n ≤ 2000) (hs : s.size ≤ 2000) :
    Calls Tryd.prog 46 #[.string s, .int .i64 n] w fun e w' => (∃ t : ByteArray, e = .returned (.string t) ∧ t.size ≤ 2000) ∧ w' = w := by
  go_enter Tryd.func46, Tryd.ntmps46
  go_wp2
  go_loopw [0, 1, 5] (fun a b c wr => ∃ (s o : ByteArray) (k : Nat), a = .string s ∧ b = .int .i64 k ∧ c = .string o ∧ o.size + s.size * k ≤ 2000 ∧ k ≤ 2000 ∧ s.size ≤ 4000 ∧ wr = w) (fun _ b _ _ => (intOf b).toNat)
  case atStart => exact ⟨s, ⟨#[]⟩, n, rfl, rfl, rfl, by show 0 + s.size * n ≤ 2000; omega, hn, by omega, rfl⟩
  case round =>
    obtain ⟨s, o, k, rfl, rfl, rfl, h1, h2, h3, rfl⟩ := hrel
    by_cases hk : 0 < k
    · have hk2 : s.size ≤ s.size * k := Nat.le_mul_of_pos_right _ hk
      have hd : k = 2 * (k / 2) + k % 2 := (Nat.div_add_mod k 2).symm
      have hq : (k : Int) / 2 = ((k / 2 : Nat) : Int) := by omega
      have hr : (k : Int) % 2 = ((k % 2 : Nat) : Int) := by omega
      have he : s.size * k = s.size * 2 * (k / 2) + s.size * (k % 2) := by
        conv => lhs; rw [hd]
        rw [Nat.mul_add, Nat.mul_assoc]
      obtain ⟨m, hm⟩ : ∃ m, k / 2 = m := ⟨_, rfl⟩
      rw [hm] at hq he
      rcases Nat.mod_two_eq_zero_or_one k with hz | hz
      · rw [hz] at hr he
        have HX := hid (show o.size + (s.size + s.size) * m ≤ 2000 ∧ m < k from ⟨by rw [Nat.mul_zero, Nat.add_zero] at he; rw [← Nat.mul_two]; omega, by omega⟩)
        clear he hd
        go_wp2
        go_roundw
        case rel => exact ⟨s ++ s, o, m, rfl, by go_num, rfl, by rw [ByteArray.size_append]; exact HX.out.1, by have := HX.out.2; omega, by rw [ByteArray.size_append]; omega, by trivial⟩
        case measure => have := HX.out.2; simp [intOf]; omega
      · rw [hz] at hr he
        have HX := hid (show o.size + s.size + (s.size + s.size) * m ≤ 2000 ∧ m < k from ⟨by rw [Nat.mul_one] at he; rw [← Nat.mul_two]; omega, by omega⟩)
        clear he hd
        go_wp2
        go_roundw
        case rel => exact ⟨s ++ s, o ++ s, m, rfl, by go_num, rfl, by rw [ByteArray.size_append, ByteArray.size_append]; exact HX.out.1, by have := HX.out.2; omega, by rw [ByteArray.size_append]; omega, by trivial⟩
        case measure => have := HX.out.2; simp [intOf]; omega
    · go_wp2
      go_ret
      exact ⟨⟨o, rfl, by omega⟩, rfl⟩
theorem Drew.one {R p : Nat} {w w' : World} (h : Rd R w' (p + 1)) (hs : Sv (fun k => k = R) w w') : Drew R 1 p w w' := ⟨p + 1, by omega, by omega, h, hs⟩
theorem Drew.mono {R c c' p : Nat} {w w' : World} (h : Drew R c p w w') (hc : c ≤ c') : Drew R c' p w w' := by
  obtain ⟨p', h1, h2, h3⟩ := h
  exact ⟨p', h1, by omega, h3⟩
set_option maxHeartbeats 2000000 in
theorem l1DrawText_any (R p : Nat) (w : World) (hp : p ≤ 900000000) (hr : Rd R w p) :
    Calls Tryd.prog 49 #[.pointer (some ⟨R, 0, none⟩)] w fun e w' => (∃ t : ByteArray, e = .returned (.string t) ∧ t.size ≤ 10) ∧ Drew R 10 p w w' := by
  have HR := hid hr
  clear hr
  go_enter Tryd.func49, Tryd.ntmps49
  go_wp2_with fail
  refine (pick_any R p 10 _ (by omega) (by omega) HR.out).mono ?_
  rintro e w1 ⟨⟨x, rfl, hx⟩, hr1, hs1⟩
  have HR1 := hid hr1
  have HS1 := hid hs1
  have HD1 := hid (Drew.mono (Drew.one hr1 hs1) (show 1 ≤ 10 by omega))
  clear hr1 hs1
  go_wp2_with fail
  · go_ret
    exact ⟨⟨_, rfl, by decide⟩, HD1.out⟩
  · go_ret
    exact ⟨⟨_, rfl, by decide⟩, HD1.out⟩
  · go_ret
    exact ⟨⟨_, rfl, by decide⟩, HD1.out⟩
  · go_ret
    exact ⟨⟨_, rfl, by decide⟩, HD1.out⟩
  · go_ret
    exact ⟨⟨_, rfl, by decide⟩, HD1.out⟩
  · refine (pick_any R (p + 1) 4 _ (by omega) (by omega) HR1.out).mono ?_
    rintro e w2 ⟨⟨y, rfl, hy⟩, hr2, hs2⟩
    have HR2 := hid hr2
    have HS2 := hid (HS1.out.trans hs2)
    clear hr2 hs2
    have hy3 : y ≤ 3 := by omega
    go_wp2_with fail
    go_loopw [3, 4] (fun a b wr => ∃ (o : ByteArray) (k : Int) (q : Nat), a = .string o ∧ b = .int .i64 k ∧ -1 ≤ k ∧ k ≤ 3 ∧ (o.size : Int) + k ≤ 3 ∧ p ≤ q ∧ (q : Int) + k ≤ p + 5 ∧ Rd R wr q ∧ Sv (fun k => k = R) w wr) (fun _ b _ => (intOf b + 1).toNat)
    case atStart => exact ⟨⟨#[]⟩, y, p + 1 + 1, rfl, rfl, by omega, by omega, by show ((0 : Nat) : Int) + y ≤ 3; omega, by omega, by omega, HR2.out, HS2.out⟩
    case round =>
      obtain ⟨o, k, q, rfl, rfl, k1, k2, k3, q1, q2, hrq, hsq⟩ := hrel
      have HRQ := hid hrq
      have HSQ := hid hsq
      clear hrq hsq
      by_cases hk : 0 ≤ k
      · go_wp2_with fail
        refine (pick_any R q 4 _ (by omega) (by omega) HRQ.out).mono ?_
        rintro e w3 ⟨⟨z, rfl, hz⟩, hr3, hs3⟩
        have HR3 := hid hr3
        have HS3 := hid (HSQ.out.trans hs3)
        clear hr3 hs3
        obtain rfl | rfl | rfl | rfl : z = 0 ∨ z = 1 ∨ z = 2 ∨ z = 3 := by omega
        all_goals
          go_wp2
          go_roundw
          case rel => exact ⟨_, k - 1, q + 1, rfl, by go_num, by omega, by omega, by rw [ByteArray.size_append]; simp; omega, by omega, by omega, HR3.out, HS3.out⟩
          case measure => simp [intOf]; omega
      · go_wp2
        go_ret
        exact ⟨⟨o, rfl, by omega⟩, q, by omega, by omega, HRQ.out, HSQ.out⟩
end Go.Proofs.YtfookokepnnmoaaDoor
