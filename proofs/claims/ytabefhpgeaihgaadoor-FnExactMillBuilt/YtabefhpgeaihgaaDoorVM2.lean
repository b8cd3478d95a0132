import Derived.Test.YtabefhpgeaihgaaDoorVBase
/-! What both sides count, as one. -/
namespace Go.Proofs.YtabefhpgeaihgaaDoor.V
open Go.RowKit Go.Shelf
set_option maxRecDepth 20000
/-- How far a shift of a type goes. -/
def shT (t b : Int) : Nat := min (shN ((kT t).wrap b)).toNat (kT t).bits
/-- What an op counts, as it lies in N. -/
def cntT (t op a b : Int) : Int :=
  if op = 9 then into t (a + b) else if op = 10 then into t (a - b) else if op = 11 then into t (orB 64 a b)
  else if op = 12 then into t (xorB 64 a b) else if op = 13 then into t (a * b) else if op = 14 then into t (((kT t).wrap a).tdiv ((kT t).wrap b))
  else if op = 15 then IntKind.i64.wrap (((kT t).wrap a).tmod ((kT t).wrap b)) else if op = 16 then into t (andB 64 a b)
  else if op = 17 then into t (a * 2 ^ shT t b) else IntKind.i64.wrap (((kT t).wrap a) / 2 ^ shT t b)
theorem impl_cnt (t op a b : Int) (h9 : 9 ≤ op) (h18 : op ≤ 18) : IntKind.i64.wrap (cntK (kT t) op ((kT t).wrap a) ((kT t).wrap b)) = cntT t op a b := by
  have ea := wrap_emod (kT t) a
  have eb := wrap_emod (kT t) b
  obtain rfl | rfl | rfl | rfl | rfl | rfl | rfl | rfl | rfl | rfl : op = 9 ∨ op = 10 ∨ op = 11 ∨ op = 12 ∨ op = 13 ∨ op = 14 ∨ op = 15 ∨ op = 16 ∨ op = 17 ∨ op = 18 := by omega
  · exact intoK_congr _ (add_congr _ _ _ _ _ ea eb)
  · exact intoK_congr _ (sub_congr _ _ _ _ _ ea eb)
  · exact intoK_congr _ (or_down (kT t) a b _ _ ea.symm eb.symm).symm
  · exact intoK_congr _ (xor_down (kT t) a b _ _ ea.symm eb.symm).symm
  · exact intoK_congr _ (mul_congr _ _ _ _ _ ea eb)
  · rfl
  · rfl
  · exact intoK_congr _ (and_down (kT t) a b _ _ ea.symm eb.symm).symm
  · exact intoK_congr _ (mul_congr _ _ _ _ _ ea rfl)
  · show IntKind.i64.wrap (Int.fdiv _ _) = IntKind.i64.wrap (_ / _)
    rw [fdiv_pow]
    rfl
theorem u_emod (n : Int) : IntKind.u64.wrap n % 2 ^ 64 = n % 2 ^ 64 := wrap_emod .u64 n
theorem bits_or (x y : Int) : bits BinOp.or IntKind.u64 x y = IntKind.u64.wrap (orB 64 x y) := rfl
theorem bits_xor (x y : Int) : bits BinOp.xor IntKind.u64 x y = IntKind.u64.wrap (xorB 64 x y) := rfl
theorem bits_and (x y : Int) : bits BinOp.and IntKind.u64 x y = IntKind.u64.wrap (andB 64 x y) := rfl
theorem into_u (t n : Int) : into t (IntKind.u64.wrap n) = into t n := intoK_u64 _ _
theorem spec_neg (t n : Int) : into t (IntKind.u64.wrap (-IntKind.u64.wrap n)) = cntT t 10 0 n := by
  rw [into_u]
  refine intoK_congr _ ?_
  have := sub_congr (2 ^ (kT t).bits) 0 (IntKind.u64.wrap n) 0 n rfl (u64_emod _ n)
  simpa using this
theorem spec_inv (t n : Int) : into t (bits BinOp.xor IntKind.u64 IntKind.u64.max (IntKind.u64.wrap n)) = cntT t 12 n (-1) := by
  rw [bits_xor, into_u]
  show into t _ = into t _
  have h : xorB 64 IntKind.u64.max (IntKind.u64.wrap n) = xorB 64 n (-1) := by
    unfold xorB
    rw [ofInt_congr 64 (u_emod n), show BitVec.ofInt 64 IntKind.u64.max = BitVec.ofInt 64 (-1) from by decide, BitVec.xor_comm]
  rw [h]
theorem spec_add (t a b : Int) : into t (IntKind.u64.wrap (IntKind.u64.wrap a + IntKind.u64.wrap b)) = cntT t 9 a b := by
  rw [into_u]; exact intoK_congr _ (add_congr _ _ _ _ _ (u64_emod _ a) (u64_emod _ b))
theorem spec_sub (t a b : Int) : into t (IntKind.u64.wrap (IntKind.u64.wrap a - IntKind.u64.wrap b)) = cntT t 10 a b := by
  rw [into_u]; exact intoK_congr _ (sub_congr _ _ _ _ _ (u64_emod _ a) (u64_emod _ b))
theorem spec_mul (t a b : Int) : into t (IntKind.u64.wrap (IntKind.u64.wrap a * IntKind.u64.wrap b)) = cntT t 13 a b := by
  rw [into_u]; exact intoK_congr _ (mul_congr _ _ _ _ _ (u64_emod _ a) (u64_emod _ b))
theorem spec_or (t a b : Int) : into t (bits BinOp.or IntKind.u64 (IntKind.u64.wrap a) (IntKind.u64.wrap b)) = cntT t 11 a b := by
  rw [bits_or, into_u]
  show into t (orB 64 _ _) = into t (orB 64 _ _)
  unfold orB
  rw [ofInt_congr 64 (u_emod a), ofInt_congr 64 (u_emod b)]
theorem spec_xor (t a b : Int) : into t (bits BinOp.xor IntKind.u64 (IntKind.u64.wrap a) (IntKind.u64.wrap b)) = cntT t 12 a b := by
  rw [bits_xor, into_u]
  show into t (xorB 64 _ _) = into t (xorB 64 _ _)
  unfold xorB
  rw [ofInt_congr 64 (u_emod a), ofInt_congr 64 (u_emod b)]
theorem spec_and (t a b : Int) : into t (bits BinOp.and IntKind.u64 (IntKind.u64.wrap a) (IntKind.u64.wrap b)) = cntT t 16 a b := by
  rw [bits_and, into_u]
  show into t (andB 64 _ _) = into t (andB 64 _ _)
  unfold andB
  rw [ofInt_congr 64 (u_emod a), ofInt_congr 64 (u_emod b)]
theorem bits_bd (op : BinOp) (x y : Int) : 0 ≤ bits op IntKind.u64 x y ∧ bits op IntKind.u64 x y ≤ 18446744073709551615 := by
  have h : ∀ n : Int, 0 ≤ IntKind.u64.wrap n ∧ IntKind.u64.wrap n ≤ 18446744073709551615 := fun n => by
    simp [IntKind.wrap, IntKind.bits, IntKind.signed]; omega
  unfold bits
  first | exact h _ | (split <;> first | exact h _ | exact ⟨by decide, by decide⟩)
theorem kt_signed {t a : Int} (h7 : 7 ≤ t) (h10 : t ≤ 10) (h : a = into t a) : (kT t).wrap a = a := by
  obtain rfl | rfl | rfl | rfl : t = 7 ∨ t = 8 ∨ t = 9 ∨ t = 10 := by omega
  all_goals (simp [into, intoK, kT7, kT8, kT9, kT10, IntKind.wrap, IntKind.bits, IntKind.signed] at h ⊢; omega)
theorem kt_unsigned {t a : Int} (h3 : 3 ≤ t) (h6 : t ≤ 6) (h : a = into t a) : (kT t).wrap a = IntKind.u64.wrap a := by
  obtain rfl | rfl | rfl | rfl : t = 3 ∨ t = 4 ∨ t = 5 ∨ t = 6 := by omega
  all_goals (simp [into, intoK, kT3, kT4, kT5, kT6, IntKind.wrap, IntKind.bits, IntKind.signed] at h ⊢ <;> omega)
theorem kt_eq {t a b : Int} (ha : a = into t a) (hb : b = into t b) : a = b ↔ (kT t).wrap a = (kT t).wrap b := by
  refine ⟨fun h => by rw [h], fun h => ?_⟩
  rw [ha, hb]
  unfold into intoK
  rw [h]
end Go.Proofs.YtabefhpgeaihgaaDoor.V
