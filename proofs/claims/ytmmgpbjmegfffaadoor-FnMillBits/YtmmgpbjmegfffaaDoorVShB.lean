import Derived.Test.YtmmgpbjmegfffaaDoorVShift
/-! Shifts of the model are those that the program counts. -/
namespace Go.Proofs.YtmmgpbjmegfffaaDoor.V
open Go.RowKit Go.Shelf
set_option maxRecDepth 20000
theorem shN_pos {b : Int} (h : 0 ≤ b) : shN b = b := by unfold shN; rw [if_neg (by omega)]
theorem shN_neg {b : Int} (h : b < 0) : shN b = 64 := by unfold shN; rw [if_pos h]
theorem sh_le (t b : Int) : shT t b ≤ (kT t).bits := by unfold shT; exact Nat.min_le_right _ _
theorem sh_hc {t b : Int} (h3 : 3 ≤ t) (h10 : t ≤ 10) (hb : b = into t b) (b1 : -9223372036854775808 ≤ b) (b2 : b ≤ 9223372036854775807) :
    (7 ≤ t ∧ b < 0 ∧ shT t b = (kT t).bits) ∨ (¬ (7 ≤ t ∧ b < 0) ∧ (((kT t).bits : Nat) : Int) < IntKind.u64.wrap b ∧ shT t b = (kT t).bits) ∨ (b = (shT t b : Nat)) := by
  have hB := bits_le (kT t)
  by_cases h7 : 7 ≤ t
  · have e := kt_signed h7 h10 hb
    unfold shT
    rw [e]
    by_cases hn : b < 0
    · left
      rw [shN_neg hn]
      exact ⟨h7, hn, by omega⟩
    · right
      rw [shN_pos (by omega), pos_wrap (by omega) b2]
      by_cases hl : (((kT t).bits : Nat) : Int) < b
      · left; exact ⟨by omega, hl, by omega⟩
      · right; omega
  · have e := kt_unsigned h3 (by omega) hb
    have hu := u64_bd b
    unfold shT
    rw [e, shN_pos hu.1]
    right
    by_cases hl : (((kT t).bits : Nat) : Int) < IntKind.u64.wrap b
    · left; exact ⟨by omega, hl, by omega⟩
    · right
      have : IntKind.u64.wrap b = b := by
        rcases Int.lt_or_le b 0 with h | h
        · exfalso
          have : IntKind.u64.wrap b = b + 18446744073709551616 := by
            simp [IntKind.wrap, IntKind.bits, IntKind.signed]; omega
          omega
        · exact pos_wrap h b2
      rw [this] at hl ⊢
      omega
theorem signed_n {t : Int} (h10 : t ≤ 10) (W : World) : Calls Tryd.prog 32 #[.int .i64 t] W fun e w' => e = .returned (.bool (decide (7 ≤ t))) ∧ w' = W := by
  have := l10Signed_any t W
  rwa [show (decide (7 ≤ t) && decide (t ≤ 10)) = decide (7 ≤ t) by simp [h10]] at this
theorem into_self {t a : Int} (ha : a = into t a) : intoK (kT t) a = a := ha.symm
theorem shl_any (t a b : Int) (h3 : 3 ≤ t) (h10 : t ≤ 10) (ha : a = into t a) (hb : b = into t b) (b1 : -9223372036854775808 ≤ b) (b2 : b ≤ 9223372036854775807) (w : World) :
    Calls Tryd.prog 18 #[.int .i64 17, .int .i64 t, .int .i64 a, .int .i64 b] w fun e w' => e = .returned (val t (cntT t 17 a b) wNone) ∧ Below w.heap.size w w' := by
  have hB := bits_le (kT t)
  refine shift_l t a b (kT t).bits (shT t b) (fun k => into t (a * 2 ^ k)) (by omega) (sh_le t b) (fun W => l10Bits_any t h3 h10 W) (fun W => signed_n h10 W) (sh_hc h3 h10 hb b1 b2) (by simpa using ha.symm) (fun k _ W => num_pos t _ h3 h10 _ ?_ W) w
  refine intoK_congr _ ?_
  have e : (IntKind.u64.wrap (into t (a * 2 ^ k))) % 2 ^ (kT t).bits = (a * 2 ^ k) % 2 ^ (kT t).bits := by rw [u64_emod]; exact intoK_emod _ _
  have := mul_congr _ _ 2 _ 2 e rfl
  rw [this, Int.pow_succ, Int.mul_assoc]
theorem ediv_pow (x : Int) (k : Nat) : x / 2 ^ k / 2 = x / 2 ^ (k + 1) := by
  rw [Int.pow_succ, Int.ediv_ediv_of_nonneg (Int.pow_nonneg (by decide))]
theorem shr_any (t a b : Int) (h3 : 3 ≤ t) (h10 : t ≤ 10) (ha : a = into t a) (hb : b = into t b) (a1 : -9223372036854775808 ≤ a) (a2 : a ≤ 9223372036854775807) (b1 : -9223372036854775808 ≤ b) (b2 : b ≤ 9223372036854775807) (w : World) :
    Calls Tryd.prog 18 #[.int .i64 18, .int .i64 t, .int .i64 a, .int .i64 b] w fun e w' => e = .returned (val t (cntT t 18 a b) wNone) ∧ Below w.heap.size w w' := by
  have hB := bits_le (kT t)
  by_cases h7 : 7 ≤ t
  · have e := kt_signed h7 h10 ha
    have q := fun k => shr_bd a (2 ^ k) (one_le_pow k)
    have i64 : ∀ n : Int, -9223372036854775808 ≤ n → n ≤ 9223372036854775807 → IntKind.i64.wrap n = n := fun n p1 p2 => by
      simp [IntKind.wrap, IntKind.bits, IntKind.signed]; omega
    have hr : ∀ k, IntKind.i64.wrap (a / 2 ^ k) = a / 2 ^ k := fun k => i64 _ (by have := q k; omega) (by have := q k; omega)
    have h := shift_s t a b (kT t).bits (shT t b) (fun k => a / 2 ^ k) (by omega) (sh_le t b) (fun W => l10Bits_any t h3 h10 W) (fun W => signed_n h10 W) (sh_hc h3 h10 hb b1 b2) (by simp) h7 (fun k _ => ⟨(ediv_pow a k).symm, by have := q k; omega, by have := q k; omega⟩) w
    have hcnt : cntT t 18 a b = a / 2 ^ shT t b := by
      show IntKind.i64.wrap ((kT t).wrap a / 2 ^ shT t b) = _
      rw [e, hr]
    rw [hcnt]; exact h
  · have e := kt_unsigned h3 (by omega) ha
    have hu := u64_bd a
    have q := fun k => (shr_bd (IntKind.u64.wrap a) (2 ^ k) (one_le_pow k)).1 hu.1
    have ui : ∀ n : Int, 0 ≤ n → n ≤ 18446744073709551615 → IntKind.u64.wrap (IntKind.i64.wrap n) = n := fun n p1 p2 => by
      simp [IntKind.wrap, IntKind.bits, IntKind.signed]; omega
    have uu : ∀ n : Int, 0 ≤ n → n ≤ 18446744073709551615 → IntKind.u64.wrap n = n := fun n p1 p2 => by
      simp [IntKind.wrap, IntKind.bits, IntKind.signed]; omega
    have h := shift_u t a b (kT t).bits (shT t b) (fun k => IntKind.i64.wrap (IntKind.u64.wrap a / 2 ^ k)) (by omega) (sh_le t b) (fun W => l10Bits_any t h3 h10 W) (fun W => signed_n h10 W) (sh_hc h3 h10 hb b1 b2)
      (by
        have : into t a = IntKind.i64.wrap (IntKind.u64.wrap a) := by show IntKind.i64.wrap ((kT t).wrap a) = _; rw [e]
        simp only [Int.pow_zero, Int.ediv_one]
        rw [← this]; exact ha.symm) (by omega)
      (fun k _ => by
        have k1 := q k
        have k2 := q (k + 1)
        show IntKind.i64.wrap (IntKind.u64.wrap a / 2 ^ (k + 1)) = _
        rw [ui _ k1.1 (by omega), Int.tdiv_eq_ediv_of_nonneg k1.1, ediv_pow, uu _ k2.1 (by omega)]) w
    have hcnt : cntT t 18 a b = IntKind.i64.wrap (IntKind.u64.wrap a / 2 ^ shT t b) := by
      show IntKind.i64.wrap ((kT t).wrap a / 2 ^ shT t b) = _
      rw [e]
    rw [hcnt]; exact h
end Go.Proofs.YtmmgpbjmegfffaaDoor.V
