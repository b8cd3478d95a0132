import Derived.Test.YtmmgpbjmegfffaaDoorVDrB
/-! Draws: numbers. -/
namespace Go.Proofs.YtmmgpbjmegfffaaDoor.V
open Go.RowKit Go.Shelf
set_option maxRecDepth 20000
theorem w64_bd (n : Int) : -9223372036854775808 ≤ wrap64 n ∧ wrap64 n ≤ 9223372036854775807 := by
  unfold wrap64
  omega
theorem At.below {R b : Nat} {w W V : World} (h : At R w b W) (k : Below W.heap.size W V) : At R w b V := h.next k
set_option maxHeartbeats 4000000 in
theorem number_at {R b : Nat} {w W : World} (h : At R w b W) (hb : b ≤ 700000) (t : Int) (h3 : 3 ≤ t) (h10 : t ≤ 10) :
    Calls Tryd.prog 61 #[.pointer (some ⟨R, 0, none⟩), .int .i64 t] W fun e w' => ∃ n : Int, e = .returned (.int .i64 n) ∧ -9223372036854775808 ≤ n ∧ n ≤ 9223372036854775807 ∧ At R w (b + 4) w' := by
  have HA := hid h
  clear h
  have HM := hid (l10Max_any t (by omega) h10)
  have HI : Hid (∀ (x : Int) (W : World), 0 ≤ x → x ≤ 18446744073709551615 → _) := fun x W p q => l13Into_any t x h3 h10 p q W
  have HU := hid u64_bd
  have HW := hid w64_bd
  go_enter Tryd.func61, Tryd.ntmps61
  go_wp2_with fail
  refine (HM.out _).mono ?_
  rintro e w1 ⟨m, rfl, m1, m2, hb1⟩
  have HA1 := hid (HA.out.next hb1)
  clear hb1 HA
  go_wp2_with fail
  refine (pick_at HA1.out (by omega) 9 (by omega)).mono ?_
  rintro e w2 ⟨x, rfl, hx, a2, s2⟩
  have HA2 := hid a2
  clear a2 s2 HA1
  by_cases h6 : x ≤ 3
  · obtain rfl | rfl | rfl | rfl : x = 0 ∨ x = 1 ∨ x = 2 ∨ x = 3 := by omega
    · go_wp2
      go_ret
      exact ⟨_, rfl, (HW.out _).1, (HW.out _).2, HA2.out.mono (by omega)⟩
    · go_wp2_with fail
      refine (pick_at HA2.out (by omega) 3 (by omega)).mono ?_
      rintro e w3 ⟨y, rfl, hy, a3, s3⟩
      have HA3 := hid a3
      clear a3 s3
      go_wp2
      go_ret
      exact ⟨_, rfl, (HW.out _).1, (HW.out _).2, HA3.out.mono (by omega)⟩
    · go_wp2
      go_ret
      exact ⟨_, rfl, by omega, by omega, HA2.out.mono (by omega)⟩
    · go_wp2_with fail
      refine (pick_at HA2.out (by omega) 256 (by omega)).mono ?_
      rintro e w3 ⟨y, rfl, hy, a3, s3⟩
      have HA3 := hid a3
      clear a3 s3
      go_wp2_with fail
      refine (pick_at HA3.out (by omega) 256 (by omega)).mono ?_
      rintro e w4 ⟨z, rfl, hz, a4, s4⟩
      have HA4 := hid a4
      clear a4 s4
      go_wp2_with fail
      refine (pick_at HA4.out (by omega) 256 (by omega)).mono ?_
      rintro e w5 ⟨k, rfl, hk, a5, s5⟩
      have HA5 := hid a5
      clear a5 s5
      go_wp2_with fail
      refine (HI.out _ _ (HU.out _).1 (HU.out _).2).mono ?_
      rintro e w6 ⟨rfl, hw⟩
      have hw2 := hw.symm
      clear hw
      subst hw2
      go_wp2
      go_ret
      exact ⟨_, rfl, (wr64 _).1, (wr64 _).2, HA5.out.mono (by omega)⟩
  · have n0 : ¬ x = 0 := by omega
    have n1 : ¬ x = 1 := by omega
    have n2 : ¬ x = 2 := by omega
    have n3 : ¬ x = 3 := by omega
    go_wp2_with fail
    refine (pick_at HA2.out (by omega) 10 (by omega)).mono ?_
    rintro e w3 ⟨y, rfl, hy, a3, s3⟩
    have HA3 := hid a3
    clear a3 s3
    go_wp2
    go_ret
    exact ⟨y, rfl, by omega, by omega, HA3.out.mono (by omega)⟩
end Go.Proofs.YtmmgpbjmegfffaaDoor.V
