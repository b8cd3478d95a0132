import Derived.Test.YtmmgpbjmegfffaaDoorVBoth
/-! Or is what both have and what either has; shifts add up. -/
namespace Go.Proofs.YtmmgpbjmegfffaaDoor.V
open Go.RowKit Go.Shelf
set_option maxRecDepth 20000
theorem and_xor_or (x y : BitVec 64) : (x &&& y) + (x ^^^ y) = x ||| y := by
  have h : (x &&& y) &&& (x ^^^ y) = 0#64 := by
    ext i hi
    simp
    cases x[i] <;> cases y[i] <;> simp
  rw [BitVec.add_eq_or_of_and_eq_zero _ _ h]
  ext i hi
  simp
  cases x[i] <;> cases y[i] <;> simp
theorem and_xor_mod (a b : Int) : (andB 64 a b + xorB 64 a b) % 2 ^ 64 = orB 64 a b % 2 ^ 64 := by
  unfold andB xorB orB
  have h := congrArg BitVec.toNat (and_xor_or (BitVec.ofInt 64 a) (BitVec.ofInt 64 b))
  rw [BitVec.toNat_add] at h
  generalize (BitVec.ofInt 64 a &&& BitVec.ofInt 64 b).toNat = p at *
  generalize (BitVec.ofInt 64 a ^^^ BitVec.ofInt 64 b).toNat = q at *
  have hr := (BitVec.ofInt 64 a ||| BitVec.ofInt 64 b).isLt
  generalize (BitVec.ofInt 64 a ||| BitVec.ofInt 64 b).toNat = r at *
  omega
theorem or_sum (t a b : Int) : cntT t 9 (cntT t 16 a b) (cntT t 12 a b) = cntT t 11 a b := by
  show into t (into t (andB 64 a b) + into t (xorB 64 a b)) = into t (orB 64 a b)
  refine intoK_congr _ ?_
  have e := add_congr _ _ _ _ _ (intoK_emod (kT t) (andB 64 a b)) (intoK_emod (kT t) (xorB 64 a b))
  refine Eq.trans e ?_
  exact emod_down (kT t) (and_xor_mod a b)
theorem into_into (t n : Int) : into t n = into t (into t n) := (intoK_intoK _ _).symm
theorem small_wrap (t : Int) {k : Int} (h0 : 0 ≤ k) (h1 : k ≤ 127) : (kT t).wrap k = k := by
  unfold kT
  repeat' split
  all_goals (simp [IntKind.wrap, IntKind.bits, IntKind.signed]; omega)
theorem small_into (t : Int) {k : Int} (h0 : 0 ≤ k) (h1 : k ≤ 127) : k = into t k := by
  show k = IntKind.i64.wrap ((kT t).wrap k)
  rw [small_wrap t h0 h1]
  simp [IntKind.wrap, IntKind.bits, IntKind.signed]; omega
theorem shT_nat (t : Int) (k : Nat) (h : k ≤ 127) : shT t (k : Int) = min k (kT t).bits := by
  unfold shT
  rw [small_wrap t (by omega) (by omega), shN_pos (by omega)]
  omega
theorem bits_ge (t : Int) : 8 ≤ (kT t).bits := by
  unfold kT
  repeat' split
  all_goals decide
theorem pow_dvd_zero (a : Int) {m n : Nat} (h : m ≤ n) : (a * 2 ^ n) % 2 ^ m = 0 := by
  have : (2 : Int) ^ n = 2 ^ m * 2 ^ (n - m) := by rw [← Int.pow_add]; congr 1; omega
  rw [this]
  exact Int.emod_eq_zero_of_dvd ⟨a * 2 ^ (n - m), by rw [← Int.mul_assoc, Int.mul_comm a, Int.mul_assoc]⟩
theorem shl_add (t a : Int) (k : Nat) (hk : k ≤ 100) : cntT t 17 (cntT t 17 a k) 1 = cntT t 17 a ((k : Int) + 1) := by
  show into t (into t (a * 2 ^ shT t k) * 2 ^ shT t 1) = into t (a * 2 ^ shT t ((k : Int) + 1))
  have hb := bits_ge t
  have e1 : shT t 1 = 1 := by have := shT_nat t 1 (by omega); rw [show ((1 : Nat) : Int) = 1 from rfl] at this; rw [this]; omega
  have e2 : shT t ((k : Int) + 1) = min (k + 1) (kT t).bits := shT_nat t (k + 1) (by omega)
  rw [e1, e2, shT_nat t k (by omega)]
  refine intoK_congr _ ?_
  have e3 : (into t (a * 2 ^ min k (kT t).bits)) % 2 ^ (kT t).bits = (a * 2 ^ min k (kT t).bits) % 2 ^ (kT t).bits := intoK_emod _ _
  rw [mul_congr _ _ (2 ^ 1) _ (2 ^ 1) e3 rfl, Int.mul_assoc, ← Int.pow_add]
  by_cases h : k < (kT t).bits
  · rw [Nat.min_eq_left (by omega), Nat.min_eq_left (by omega)]
  · rw [Nat.min_eq_right (by omega), Nat.min_eq_right (by omega), pow_dvd_zero a (by omega), pow_dvd_zero a (by omega)]
/-- A number of a kind stays one when it is shifted to the right. -/
theorem shr_in (K : IntKind) (a : Int) (m : Nat) : K.wrap (IntKind.i64.wrap (K.wrap a / 2 ^ m)) = K.wrap a / 2 ^ m := by
  have h1 : K.wrap (IntKind.i64.wrap (K.wrap a / 2 ^ m)) = K.wrap (K.wrap a / 2 ^ m) := wrap_congr K (i64_emod K _)
  rw [h1]
  have hs := shr_bd (K.wrap a) (2 ^ m) (one_le_pow m)
  generalize K.wrap a / 2 ^ m = q at *
  have hw := wrap_wrap K a
  generalize K.wrap a = p at *
  cases K <;> simp [IntKind.wrap, IntKind.bits, IntKind.signed] at hw ⊢ <;> omega
theorem wr_lt (K : IntKind) (a : Int) : -(2 ^ K.bits : Int) < K.wrap a ∧ K.wrap a < 2 ^ K.bits := by
  cases K <;> simp [IntKind.wrap, IntKind.bits, IntKind.signed] <;> omega
theorem div_small (p : Int) (n : Nat) (h : -(2 ^ n : Int) < p ∧ p < 2 ^ n) : p / 2 ^ n = p / 2 ^ (n + 1) := by
  have h0 := one_le_pow n
  have h1 : (2 : Int) ^ (n + 1) = 2 ^ n * 2 := Int.pow_succ 2 n
  rw [h1]
  generalize (2 : Int) ^ n = z at *
  by_cases hp : 0 ≤ p
  · rw [Int.ediv_eq_zero_of_lt hp h.2, Int.ediv_eq_zero_of_lt hp (by omega)]
  · have e : ∀ y : Int, 0 < y → -y < p → p / y = -1 := fun y hy hl => by
      have a1 : p / y < 0 := Int.ediv_neg_of_neg_of_pos (by omega) hy
      have a2 : -1 ≤ p / y := Int.le_ediv_of_mul_le hy (by omega)
      omega
    rw [e z (by omega) h.1, e (z * 2) (by omega) (by omega)]
theorem shr_add (t a : Int) (k : Nat) (hk : k ≤ 100) : cntT t 18 (cntT t 18 a k) 1 = cntT t 18 a ((k : Int) + 1) := by
  show IntKind.i64.wrap ((kT t).wrap (IntKind.i64.wrap ((kT t).wrap a / 2 ^ shT t k)) / 2 ^ shT t 1) = IntKind.i64.wrap ((kT t).wrap a / 2 ^ shT t ((k : Int) + 1))
  have hb := bits_ge t
  have e1 : shT t 1 = 1 := by have := shT_nat t 1 (by omega); rw [show ((1 : Nat) : Int) = 1 from rfl] at this; rw [this]; omega
  have e2 : shT t ((k : Int) + 1) = min (k + 1) (kT t).bits := shT_nat t (k + 1) (by omega)
  rw [shr_in, e1, e2, shT_nat t k (by omega), show (2 : Int) ^ 1 = 2 from rfl, ediv_pow]
  by_cases h : k < (kT t).bits
  · rw [Nat.min_eq_left (by omega), Nat.min_eq_left (by omega)]
  · rw [Nat.min_eq_right (by omega), Nat.min_eq_right (by omega), ← div_small _ _ (wr_lt (kT t) a)]
theorem cnt_into (t op a b : Int) (h : op = 9 ∨ op = 11 ∨ op = 12 ∨ op = 16 ∨ op = 17 ∨ op = 18) : cntT t op a b = into t (cntT t op a b) := by
  rcases h with rfl | rfl | rfl | rfl | rfl | rfl
  iterate 5
    · exact into_into t _
  · show IntKind.i64.wrap _ = IntKind.i64.wrap ((kT t).wrap (IntKind.i64.wrap _))
    rw [shr_in]
theorem cnt_bd (t op a b : Int) (h : op = 9 ∨ op = 11 ∨ op = 12 ∨ op = 16 ∨ op = 17 ∨ op = 18) : -9223372036854775808 ≤ cntT t op a b ∧ cntT t op a b ≤ 9223372036854775807 := by
  rw [cnt_into t op a b h]
  exact wr64 _
theorem valid_mk {t n : Int} (h3 : 3 ≤ t) (h4 : t ≤ 10) (h : n = into t n) : validB t n wNone = true := by
  rw [valid_int h3 h4, Bool.and_eq_true]
  exact ⟨rfl, decide_eq_true h⟩
/-- What the program counts. -/
theorem bits_op (op t n : Int) (s : ByteArray) (n2 : Int) (x : ByteArray) (h3 : 3 ≤ t) (h4 : t ≤ 10) (ho : op = 9 ∨ op = 11 ∨ op = 12 ∨ op = 16 ∨ op = 17 ∨ op = 18) (hv : validB t n s = true) (hx : validB t n2 x = true)
    (hn1 : -9223372036854775808 ≤ n) (hn2 : n ≤ 9223372036854775807) (hm1 : -9223372036854775808 ≤ n2) (hm2 : n2 ≤ 9223372036854775807) (p q l : Addr) (W : World) (hE : Errs W p q l) :
    Calls Tryd.prog 8 #[.int .i64 op, val t n s, val t n2 x] W fun e w' => e = .returned (ans t (cntT t op n n2) wNone wNone) ∧ Below W.heap.size W w' := by
  rcases both_int op t n s n2 x h3 h4 (by omega) (by omega) hv hx hn1 hn2 hm1 hm2 p q l with ⟨h, _⟩ | ⟨h, _⟩ | ⟨_, _, h⟩
  · omega
  · omega
  · exact h.2 W hE
end Go.Proofs.YtmmgpbjmegfffaaDoor.V
