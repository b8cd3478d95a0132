import Derived.Test.YtabefhpgeaihgaaGreatDoorJ01
import Derived.Test.YtabefhpgeaihgaaGreatDoorJ03
/-! What the law of values asks of numbers: plain mathematics. -/
namespace Go.Proofs.YtabefhpgeaihgaaGreatDoor.V
open Go.RowKit Go.Shelf
set_option maxRecDepth 20000
theorem into_emod (t n : Int) : into t n % 2 ^ (kT t).bits = n % 2 ^ (kT t).bits := intoK_emod _ _
theorem into_congr (t : Int) {n m : Int} (h : n % 2 ^ (kT t).bits = m % 2 ^ (kT t).bits) : into t n = into t m := intoK_congr _ h
theorem into_zero (t : Int) : into t 0 = 0 := by
  show IntKind.i64.wrap ((kT t).wrap 0) = 0
  unfold kT
  repeat' split
  all_goals rfl
theorem neg_add (t a : Int) : cntT t 9 a (cntT t 10 0 a) = 0 := by
  show into t (a + into t (0 - a)) = 0
  refine Eq.trans (into_congr t ?_) (into_zero t)
  rw [add_congr _ a _ a (0 - a) rfl (into_emod t (0 - a))]
  congr 1; omega
theorem inv_mod (a : Int) : xorB 64 a (-1) % 2 ^ 64 = (-1 - a) % 2 ^ 64 := by
  unfold xorB
  have h : BitVec.ofInt 64 a ^^^ BitVec.ofInt 64 (-1) = ~~~ (BitVec.ofInt 64 a) := by
    have e : BitVec.ofInt 64 (-1) = BitVec.allOnes 64 := by decide
    rw [e, BitVec.xor_comm, BitVec.allOnes_xor]
  rw [h, BitVec.toNat_not, BitVec.toNat_ofInt]
  omega
theorem inv_down (t a c : Int) (h : a % 2 ^ (kT t).bits = c % 2 ^ (kT t).bits) : xorB 64 a (-1) % 2 ^ (kT t).bits = (-1 - c) % 2 ^ (kT t).bits := by
  rw [emod_down (kT t) (inv_mod a)]
  exact sub_congr _ _ _ _ _ rfl h
theorem inv_inv (t a : Int) (h : a = into t a) : cntT t 12 (cntT t 12 a (-1)) (-1) = a := by
  show into t (xorB 64 (into t (xorB 64 a (-1))) (-1)) = a
  have e : into t (xorB 64 (into t (xorB 64 a (-1))) (-1)) = into t a := by
    refine into_congr t ?_
    rw [inv_down t _ (-1 - a) ((into_emod t _).trans (inv_down t a a rfl))]
    congr 1; omega
  rw [e, ← h]
theorem into_ten (a : Int) (h1 : -9223372036854775808 ≤ a) (h2 : a ≤ 9223372036854775807) : into 10 a = a := by
  show IntKind.i64.wrap (IntKind.i64.wrap a) = a
  simp [IntKind.wrap, IntKind.bits, IntKind.signed]; omega
theorem div_sum (t a b : Int) (h : a = into t a) : cntT t 9 (cntT t 13 (cntT t 14 a b) b) (cntT t 15 a b) = a := by
  show into t (into t (into t (((kT t).wrap a).tdiv ((kT t).wrap b)) * b) + IntKind.i64.wrap (((kT t).wrap a).tmod ((kT t).wrap b))) = a
  have e : into t (into t (into t (((kT t).wrap a).tdiv ((kT t).wrap b)) * b) + IntKind.i64.wrap (((kT t).wrap a).tmod ((kT t).wrap b))) = into t a := by
    refine into_congr t ?_
    have e1 := mul_congr _ _ _ _ _ (into_emod t (((kT t).wrap a).tdiv ((kT t).wrap b))) (wrap_emod (kT t) b).symm
    have e2 := (into_emod t (into t (((kT t).wrap a).tdiv ((kT t).wrap b)) * b)).trans e1
    rw [add_congr _ _ _ _ _ e2 (i64_emod (kT t) (((kT t).wrap a).tmod ((kT t).wrap b)))]
    rw [Int.mul_comm, Int.mul_tdiv_add_tmod]
    exact wrap_emod (kT t) a
  rw [e, ← h]
theorem rem_in (K : IntKind) (a b : Int) : K.wrap (IntKind.i64.wrap ((K.wrap a).tmod b)) = (K.wrap a).tmod b := by
  have h1 : K.wrap (IntKind.i64.wrap ((K.wrap a).tmod b)) = K.wrap ((K.wrap a).tmod b) := wrap_congr K (i64_emod K _)
  rw [h1]
  have hs := tmod_bd (K.wrap a) b
  generalize (K.wrap a).tmod b = q at *
  have hw := wrap_wrap K a
  generalize K.wrap a = p at *
  cases K <;> simp [IntKind.wrap, IntKind.bits, IntKind.signed] at hw ⊢ <;> omega
theorem cnt_self (t op a b : Int) (h9 : 9 ≤ op) (h15 : op ≤ 15) : cntT t op a b = into t (cntT t op a b) := by
  obtain rfl | rfl | rfl | rfl | rfl | rfl | rfl : op = 9 ∨ op = 10 ∨ op = 11 ∨ op = 12 ∨ op = 13 ∨ op = 14 ∨ op = 15 := by omega
  iterate 6
    · exact (intoK_intoK _ _).symm
  · show IntKind.i64.wrap _ = IntKind.i64.wrap ((kT t).wrap (IntKind.i64.wrap _))
    rw [rem_in]
theorem cnt_bds (t op a b : Int) (h9 : 9 ≤ op) (h15 : op ≤ 15) : -9223372036854775808 ≤ cntT t op a b ∧ cntT t op a b ≤ 9223372036854775807 := by
  rw [cnt_self t op a b h9 h15]
  exact wr64 _
theorem cmp_one (A B : Int) : (if cmpB 5 A B then (1 : Int) else 0) + (if cmpB 8 A B then 1 else 0) = 1 := by
  show (if decide (A < B) = true then (1 : Int) else 0) + (if decide (B ≤ A) = true then 1 else 0) = 1
  by_cases h : A < B
  · have h2 : ¬ B ≤ A := by omega
    simp [h, h2]
  · have h2 : B ≤ A := by omega
    simp [h, h2]
end Go.Proofs.YtabefhpgeaihgaaGreatDoor.V
/-! The model's size of a number. -/
namespace Go.Proofs.YtabefhpgeaihgaaGreatDoor.V
open Go.RowKit Go.Shelf
set_option maxRecDepth 20000
/-- Whether a number of a type is below 0, and its size. -/
def negT (t a : Int) : Bool := decide (7 ≤ t) && decide (a < 0)
def absT (t a : Int) : Int := if negT t a then -a else IntKind.u64.wrap a
theorem neg_wrap {a : Int} (h1 : -9223372036854775808 ≤ a) (h : a < 0) : IntKind.u64.wrap (-IntKind.u64.wrap a) = -a := by
  rw [IntKind.wrap_u64, IntKind.wrap_u64]; omega
theorem pos_wrap {a : Int} (h0 : 0 ≤ a) (h2 : a ≤ 9223372036854775807) : IntKind.u64.wrap a = a := by
  rw [IntKind.wrap_u64]; omega
theorem abs_kt {t a : Int} (h3 : 3 ≤ t) (h10 : t ≤ 10) (h : a = into t a) : absT t a = (((kT t).wrap a).natAbs : Int) ∧ negT t a = decide ((kT t).wrap a < 0) := by
  unfold absT negT
  by_cases h7 : 7 ≤ t
  · rw [kt_signed h7 h10 h]
    have hb : -9223372036854775808 ≤ a ∧ a ≤ 9223372036854775807 := by rw [h]; exact wr64 _
    by_cases ha : a < 0
    · simp [h7, ha]; omega
    · have e : IntKind.u64.wrap a = a := pos_wrap (by omega) hb.2
      simp [h7, ha, e]; omega
  · rw [kt_unsigned h3 (by omega) h]
    have := u64_bd a
    simp [h7]; omega
end Go.Proofs.YtabefhpgeaihgaaGreatDoor.V
