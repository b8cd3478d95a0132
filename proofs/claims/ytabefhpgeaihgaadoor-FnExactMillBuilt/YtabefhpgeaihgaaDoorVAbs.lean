import Derived.Test.YtabefhpgeaihgaaDoorVM2
import Derived.Test.YtabefhpgeaihgaaDoorVSz
/-! The model's size of a number. -/
namespace Go.Proofs.YtabefhpgeaihgaaDoor.V
open Go.RowKit Go.Shelf
set_option maxRecDepth 20000
/-- Whether a number of a type is below 0, and its size. -/
def negT (t a : Int) : Bool := decide (7 ≤ t) && decide (a < 0)
def absT (t a : Int) : Int := if negT t a then -a else IntKind.u64.wrap a
theorem neg_wrap {a : Int} (h1 : -9223372036854775808 ≤ a) (h : a < 0) : IntKind.u64.wrap (-IntKind.u64.wrap a) = -a := by
  rw [IntKind.wrap_u64, IntKind.wrap_u64]; omega
theorem pos_wrap {a : Int} (h0 : 0 ≤ a) (h2 : a ≤ 9223372036854775807) : IntKind.u64.wrap a = a := by
  rw [IntKind.wrap_u64]; omega
set_option maxHeartbeats 1000000 in
theorem l13Abs_any (t a : Int) (h3 : 3 ≤ t) (h10 : t ≤ 10) (h1 : -9223372036854775808 ≤ a) (h2 : a ≤ 9223372036854775807) (w : World) :
    Calls Tryd.prog 24 #[.int .i64 t, .int .i64 a] w fun e w' => e = .returned (.tuple #[.int .u64 (absT t a), .bool (negT t a)]) ∧ Below w.heap.size w w' := by
  by_cases h7 : 7 ≤ t
  · have HS : Hid (∀ W, Calls Tryd.prog 35 #[.int .i64 t] W fun e w' => e = .returned (.bool true) ∧ w' = W) := fun W => by
      have := l10Signed_any t W
      rwa [show (decide (7 ≤ t) && decide (t ≤ 10)) = true by simp [h7, h10]] at this
    by_cases ha : a < 0
    · have HN : Hid (negT t a = true) := by show _ = _; simp [negT, h7, ha]
      have HA : Hid (absT t a = -a) := by show _ = _; unfold absT; rw [HN.out, if_pos rfl]
      have HW := hid (neg_wrap h1 ha)
      go_enter Tryd.func24, Tryd.ntmps24
      go_wp2_with (first | (go_at_call 35; refine (HS.out _).mono ?_; rintro e w' ⟨rfl, hw⟩; have hw2 := hw.symm; clear hw; subst hw2) | fail)
      exact bodyPost_ret (v := .tuple #[.int .u64 (IntKind.u64.wrap (-IntKind.u64.wrap a)), .bool true]) (by simp [results, Tryd.results24, go_sem]) rfl ⟨by rw [HA.out, HN.out, HW.out], Below.refl _ _⟩
    · have HN : Hid (negT t a = false) := by show _ = _; simp [negT, ha]
      have HA : Hid (absT t a = a) := by show _ = _; unfold absT; rw [HN.out, if_neg (by decide)]; exact pos_wrap (by omega) h2
      go_enter Tryd.func24, Tryd.ntmps24
      go_wp2_with (first | (go_at_call 35; refine (HS.out _).mono ?_; rintro e w' ⟨rfl, hw⟩; have hw2 := hw.symm; clear hw; subst hw2) | fail)
      exact bodyPost_ret (v := .tuple #[.int .u64 (absT t a), .bool (negT t a)]) (by rw [HA.out, HN.out]; simp [results, Tryd.results24, go_sem]) rfl ⟨rfl, Below.refl _ _⟩
  · have HS : Hid (∀ W, Calls Tryd.prog 35 #[.int .i64 t] W fun e w' => e = .returned (.bool false) ∧ w' = W) := fun W => by
      have := l10Signed_any t W
      rwa [show (decide (7 ≤ t) && decide (t ≤ 10)) = false by simp; omega] at this
    have HN : Hid (negT t a = false) := by show _ = _; simp [negT]; omega
    have HA : Hid (absT t a = IntKind.u64.wrap a) := by show _ = _; unfold absT; rw [HN.out, if_neg (by decide)]
    go_enter Tryd.func24, Tryd.ntmps24
    go_wp2_with (first | (go_at_call 35; refine (HS.out _).mono ?_; rintro e w' ⟨rfl, hw⟩; have hw2 := hw.symm; clear hw; subst hw2) | fail)
    exact bodyPost_ret (v := .tuple #[.int .u64 (absT t a), .bool (negT t a)]) (by rw [HA.out, HN.out]; simp [results, Tryd.results24, go_sem]) rfl ⟨rfl, Below.refl _ _⟩
theorem abs_kt {t a : Int} (h3 : 3 ≤ t) (h10 : t ≤ 10) (h : a = into t a) : absT t a = (((kT t).wrap a).natAbs : Int) ∧ negT t a = decide ((kT t).wrap a < 0) := by
  unfold absT negT
  by_cases h7 : 7 ≤ t
  · rw [kt_signed h7 h10 h]
    have hb : -9223372036854775808 ≤ a ∧ a ≤ 9223372036854775807 := by rw [h]; exact wr64 _
    by_cases ha : a < 0
    · simp [h7, ha]; omega
    · have e : IntKind.u64.wrap a = a := pos_wrap (by omega) hb.2
      simp [h7, ha, e]; omega
  · rw [kt_unsigned h3 (by omega) h]
    have := u64_bd a
    simp [h7]; omega
end Go.Proofs.YtabefhpgeaihgaaDoor.V
