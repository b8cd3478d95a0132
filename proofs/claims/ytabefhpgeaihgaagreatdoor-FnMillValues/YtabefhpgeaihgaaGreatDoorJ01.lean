import Derived.Lib.ParseIntB
import Derived.Lib.ItoaNum
import Derived.Lib.Index
import Derived.Test.YtabefhpgeaihgaaGreatDoorJ00
/-! Decimals and what they are read as: plain mathematics. -/
namespace Go.Proofs.YtabefhpgeaihgaaGreatDoor.V
open Go.RowKit
set_option maxRecDepth 20000
theorem uint_last (M : Nat) (c : UInt8) : ∀ (l : List UInt8) (acc : Nat), Lib.parseUintM M acc (l ++ [c]) = (match Lib.parseUintM M acc l with | .ok a => Lib.parseUintM M a [c] | e => e) := by
  intro l
  induction l with
  | nil => intro acc; simp [Lib.parseUintM]
  | cons d l ih =>
    intro acc
    by_cases h1 : 48 ≤ d.toNat ∧ d.toNat ≤ 57
    · by_cases h2 : 1844674407370955162 ≤ acc
      · simp only [List.cons_append, Lib.parseUintM, if_pos h1, if_pos h2]
      · by_cases h3 : M < acc * 10 + (d.toNat - 48)
        · simp only [List.cons_append, Lib.parseUintM, if_pos h1, if_neg h2, if_pos h3]
        · have e1 : Lib.parseUintM M acc (d :: l ++ [c]) = Lib.parseUintM M (acc * 10 + (d.toNat - 48)) (l ++ [c]) := by
            show (if _ then _ else _) = _
            rw [if_pos h1, if_neg h2, if_neg h3]
            rfl
          have e2 : Lib.parseUintM M acc (d :: l) = Lib.parseUintM M (acc * 10 + (d.toNat - 48)) l := by
            show (if _ then _ else _) = _
            rw [if_pos h1, if_neg h2, if_neg h3]
          rw [e1, e2, ih]
    · simp only [List.cons_append, Lib.parseUintM, if_neg h1]
theorem dig_toNat (k : Nat) (h : k < 10) : (UInt8.ofNat (48 + k)).toNat = 48 + k := by
  rw [UInt8.toNat_ofNat']
  omega
theorem uint_dec (M : Nat) (hM : M ≤ 18446744073709551615) : ∀ u : Nat, u ≤ M → Lib.parseUintM M 0 (Lib.decDigits u) = .ok u := by
  intro u
  induction u using Nat.strongRecOn with
  | _ u ih =>
    intro hu
    by_cases h : u < 10
    · rw [Lib.decDigits_one h]
      simp only [Lib.parseUintM, dig_toNat u h]
      rw [if_pos (by omega), if_neg (by omega), if_neg (by omega)]
      congr 1
      omega
    · rw [Lib.decDigits, dif_neg h, uint_last, ih (u / 10) (by omega) (by omega)]
      simp only [Lib.parseUintM, dig_toNat (u % 10) (by omega)]
      rw [if_pos (by omega), if_neg (by omega), if_neg (by omega)]
      congr 1
      omega
theorem dec_digit : ∀ (u : Nat) (c : UInt8), c ∈ Lib.decDigits u → 48 ≤ c.toNat ∧ c.toNat ≤ 57 := by
  intro u
  induction u using Nat.strongRecOn with
  | _ u ih =>
    intro c hc
    by_cases h : u < 10
    · rw [Lib.decDigits_one h] at hc
      rw [List.mem_singleton.1 hc, dig_toNat u h]
      omega
    · rw [Lib.decDigits, dif_neg h] at hc
      rcases List.mem_append.1 hc with hc | hc
      · exact ih (u / 10) (by omega) c hc
      · rw [List.mem_singleton.1 hc, dig_toNat (u % 10) (by omega)]
        omega
theorem dec_ne (u : Nat) : Lib.decDigits u ≠ [] := by
  intro h
  have := Lib.decDigits_length u
  rw [h] at this
  have := Lib.nDigits_pos u
  simp at *
  omega
/-- What dec writes of an i64 is read as it. -/
theorem int_itoa (n : Int) (h1 : -9223372036854775808 ≤ n) (h2 : n ≤ 9223372036854775807) : Lib.parseIntB 64 (Lib.itoa n) = .ok n := by
  unfold Lib.itoa
  split
  · rename_i hn
    have e : Lib.parseUintB 64 (Lib.decDigits n.natAbs) = .ok n.natAbs := by
      unfold Lib.parseUintB
      rw [if_neg (dec_ne _)]
      exact uint_dec _ (by decide) _ (by omega)
    simp only [Lib.parseIntB]
    rw [if_pos (Or.inr (by decide)), e]
    have k1 : ¬ (¬ (45 : UInt8).toNat = 45 ∧ 2 ^ (64 - 1) ≤ n.natAbs) := fun h => h.1 (by decide)
    have k2 : ¬ ((45 : UInt8).toNat = 45 ∧ 2 ^ (64 - 1) < n.natAbs) := fun h => by have := h.2; omega
    show (if ¬ (45 : UInt8).toNat = 45 ∧ 2 ^ (64 - 1) ≤ n.natAbs then Lib.NumEnd.range else if (45 : UInt8).toNat = 45 ∧ 2 ^ (64 - 1) < n.natAbs then Lib.NumEnd.range else Lib.NumEnd.ok (if (45 : UInt8).toNat = 45 then -(n.natAbs : Int) else (n.natAbs : Int))) = _
    rw [if_neg k1, if_neg k2, if_pos (by decide)]
    congr 1
    omega
  · rename_i hn
    have e : Lib.parseUintB 64 (Lib.decDigits n.toNat) = .ok n.toNat := by
      unfold Lib.parseUintB
      rw [if_neg (dec_ne _)]
      exact uint_dec _ (by decide) _ (by omega)
    have hd := dec_digit n.toNat
    cases hl : Lib.decDigits n.toNat with
    | nil => exact absurd hl (dec_ne _)
    | cons c r =>
      rw [hl] at e hd
      have hc := hd c (by simp)
      simp only [Lib.parseIntB]
      rw [if_neg (by omega), e]
      have k0 : ¬ c.toNat = 45 := by omega
      show (if ¬ c.toNat = 45 ∧ 2 ^ (64 - 1) ≤ n.toNat then Lib.NumEnd.range else if c.toNat = 45 ∧ 2 ^ (64 - 1) < n.toNat then Lib.NumEnd.range else Lib.NumEnd.ok (if c.toNat = 45 then -(n.toNat : Int) else (n.toNat : Int))) = _
      rw [if_neg (fun h => by have := h.2; omega), if_neg (fun h => k0 h.1), if_neg k0]
      congr 1
      omega
theorem itoa_inj {n m : Int} (h1 : -9223372036854775808 ≤ n) (h2 : n ≤ 9223372036854775807) (k1 : -9223372036854775808 ≤ m) (k2 : m ≤ 9223372036854775807) (h : Lib.itoa n = Lib.itoa m) : n = m := by
  have e1 := int_itoa n h1 h2
  rw [h, int_itoa m k1 k2] at e1
  injection e1 with e1
  exact e1.symm
/-- What is read lies in an i64. -/
theorem int_bd {l : List UInt8} {v : Int} (h : Lib.parseIntB 64 l = .ok v) : -9223372036854775808 ≤ v ∧ v ≤ 9223372036854775807 := by
  unfold Lib.parseIntB at h
  split at h
  · cases h
  · rename_i c r
    simp only at h
    split at h
    · cases h
    · cases h
    · rename_i u _
      split at h
      · cases h
      · rename_i g1
        split at h
        · cases h
        · rename_i g2
          injection h with h
          subst h
          split
          · rename_i g3
            have : ¬ 2 ^ (64 - 1) < u := fun k => g2 ⟨g3, k⟩
            omega
          · rename_i g3
            have : ¬ 2 ^ (64 - 1) ≤ u := fun k => g1 ⟨g3, k⟩
            omega
theorem ndig_le (k : Nat) : ∀ u : Nat, u < 10 ^ (k + 1) → Lib.nDigits u ≤ k + 1 := by
  induction k with
  | zero => intro u h; rw [Lib.nDigits_small (by simpa using h)]; omega
  | succ k ih =>
    intro u h
    by_cases h9 : u < 10
    · rw [Lib.nDigits_small h9]; omega
    · rw [Lib.nDigits_big h9]
      have := ih (u / 10) (by rw [Nat.pow_succ] at h; omega)
      omega
theorem itoa_len (n : Int) (h1 : -9223372036854775808 ≤ n) (h2 : n ≤ 9223372036854775807) : 1 ≤ (Lib.itoa n).length ∧ (Lib.itoa n).length ≤ 20 := by
  unfold Lib.itoa
  split
  · have := ndig_le 18 n.natAbs (by omega)
    rw [List.length_cons, Lib.decDigits_length]
    omega
  · have := ndig_le 18 n.toNat (by omega)
    have := Lib.nDigits_pos n.toNat
    rw [Lib.decDigits_length]
    omega
/-- What the model reads a byte as. -/
def accW (a : Int) (c : UInt8) : Int := IntKind.u64.wrap (IntKind.u64.wrap (IntKind.u64.wrap (a * 10) + c.toNat) - 48)
def foldW (l : List UInt8) : Int := l.foldl accW 0
theorem foldW_dec : ∀ u : Nat, u ≤ 18446744073709551615 → foldW (Lib.decDigits u) = u := by
  intro u
  induction u using Nat.strongRecOn with
  | _ u ih =>
    intro hu
    by_cases h : u < 10
    · rw [Lib.decDigits_one h]
      simp only [foldW, List.foldl, accW, dig_toNat u h]
      simp only [IntKind.wrap_u64]
      omega
    · have e := ih (u / 10) (by omega) (by omega)
      unfold foldW at e ⊢
      rw [Lib.decDigits, dif_neg h, List.foldl_append, e]
      simp only [List.foldl, accW, dig_toNat (u % 10) (by omega)]
      simp only [IntKind.wrap_u64]
      omega
/-- The number that the model tries. -/
def tryN (l : List UInt8) : Int := IntKind.i64.wrap (match l with | 45 :: r => IntKind.u64.wrap (-foldW r) | l => foldW l)
theorem tryN_itoa (n : Int) (h1 : -9223372036854775808 ≤ n) (h2 : n ≤ 9223372036854775807) : tryN (Lib.itoa n) = n := by
  unfold Lib.itoa
  split
  · show IntKind.i64.wrap (IntKind.u64.wrap (-foldW (Lib.decDigits n.natAbs))) = n
    rw [foldW_dec _ (by omega)]
    simp only [IntKind.wrap_u64, IntKind.wrap_i64]
    omega
  · have hd := dec_digit n.toNat
    have e := foldW_dec n.toNat (by omega)
    unfold tryN
    split
    · rename_i r hl
      have := hd 45 (by rw [hl]; simp)
      have : (45 : UInt8).toNat = 45 := by decide
      omega
    · rw [e]
      simp only [IntKind.wrap_i64]
      omega
end Go.Proofs.YtabefhpgeaihgaaGreatDoor.V
/-! What both sides count, as one. -/
namespace Go.Proofs.YtabefhpgeaihgaaGreatDoor.V
open Go.RowKit Go.Shelf
set_option maxRecDepth 20000
/-- How far a shift of a type goes. -/
def shT (t b : Int) : Nat := min (shN ((kT t).wrap b)).toNat (kT t).bits
/-- What an op counts, as it lies in N. -/
def cntT (t op a b : Int) : Int :=
  if op = 9 then into t (a + b) else if op = 10 then into t (a - b) else if op = 11 then into t (orB 64 a b)
  else if op = 12 then into t (xorB 64 a b) else if op = 13 then into t (a * b) else if op = 14 then into t (((kT t).wrap a).tdiv ((kT t).wrap b))
  else if op = 15 then IntKind.i64.wrap (((kT t).wrap a).tmod ((kT t).wrap b)) else if op = 16 then into t (andB 64 a b)
  else if op = 17 then into t (a * 2 ^ shT t b) else IntKind.i64.wrap (((kT t).wrap a) / 2 ^ shT t b)
theorem impl_cnt (t op a b : Int) (h9 : 9 ≤ op) (h18 : op ≤ 18) : IntKind.i64.wrap (cntK (kT t) op ((kT t).wrap a) ((kT t).wrap b)) = cntT t op a b := by
  have ea := wrap_emod (kT t) a
  have eb := wrap_emod (kT t) b
  obtain rfl | rfl | rfl | rfl | rfl | rfl | rfl | rfl | rfl | rfl : op = 9 ∨ op = 10 ∨ op = 11 ∨ op = 12 ∨ op = 13 ∨ op = 14 ∨ op = 15 ∨ op = 16 ∨ op = 17 ∨ op = 18 := by omega
  · exact intoK_congr _ (add_congr _ _ _ _ _ ea eb)
  · exact intoK_congr _ (sub_congr _ _ _ _ _ ea eb)
  · exact intoK_congr _ (or_down (kT t) a b _ _ ea.symm eb.symm).symm
  · exact intoK_congr _ (xor_down (kT t) a b _ _ ea.symm eb.symm).symm
  · exact intoK_congr _ (mul_congr _ _ _ _ _ ea eb)
  · rfl
  · rfl
  · exact intoK_congr _ (and_down (kT t) a b _ _ ea.symm eb.symm).symm
  · exact intoK_congr _ (mul_congr _ _ _ _ _ ea rfl)
  · show IntKind.i64.wrap (Int.fdiv _ _) = IntKind.i64.wrap (_ / _)
    rw [fdiv_pow]
    rfl
theorem u_emod (n : Int) : IntKind.u64.wrap n % 2 ^ 64 = n % 2 ^ 64 := wrap_emod .u64 n
theorem bits_or (x y : Int) : bits BinOp.or IntKind.u64 x y = IntKind.u64.wrap (orB 64 x y) := rfl
theorem bits_xor (x y : Int) : bits BinOp.xor IntKind.u64 x y = IntKind.u64.wrap (xorB 64 x y) := rfl
theorem bits_and (x y : Int) : bits BinOp.and IntKind.u64 x y = IntKind.u64.wrap (andB 64 x y) := rfl
theorem into_u (t n : Int) : into t (IntKind.u64.wrap n) = into t n := intoK_u64 _ _
theorem spec_neg (t n : Int) : into t (IntKind.u64.wrap (-IntKind.u64.wrap n)) = cntT t 10 0 n := by
  rw [into_u]
  refine intoK_congr _ ?_
  have := sub_congr (2 ^ (kT t).bits) 0 (IntKind.u64.wrap n) 0 n rfl (u64_emod _ n)
  simpa using this
theorem spec_inv (t n : Int) : into t (bits BinOp.xor IntKind.u64 IntKind.u64.max (IntKind.u64.wrap n)) = cntT t 12 n (-1) := by
  rw [bits_xor, into_u]
  show into t _ = into t _
  have h : xorB 64 IntKind.u64.max (IntKind.u64.wrap n) = xorB 64 n (-1) := by
    unfold xorB
    rw [ofInt_congr 64 (u_emod n), show BitVec.ofInt 64 IntKind.u64.max = BitVec.ofInt 64 (-1) from by decide, BitVec.xor_comm]
  rw [h]
theorem spec_add (t a b : Int) : into t (IntKind.u64.wrap (IntKind.u64.wrap a + IntKind.u64.wrap b)) = cntT t 9 a b := by
  rw [into_u]; exact intoK_congr _ (add_congr _ _ _ _ _ (u64_emod _ a) (u64_emod _ b))
theorem spec_sub (t a b : Int) : into t (IntKind.u64.wrap (IntKind.u64.wrap a - IntKind.u64.wrap b)) = cntT t 10 a b := by
  rw [into_u]; exact intoK_congr _ (sub_congr _ _ _ _ _ (u64_emod _ a) (u64_emod _ b))
theorem spec_mul (t a b : Int) : into t (IntKind.u64.wrap (IntKind.u64.wrap a * IntKind.u64.wrap b)) = cntT t 13 a b := by
  rw [into_u]; exact intoK_congr _ (mul_congr _ _ _ _ _ (u64_emod _ a) (u64_emod _ b))
theorem spec_or (t a b : Int) : into t (bits BinOp.or IntKind.u64 (IntKind.u64.wrap a) (IntKind.u64.wrap b)) = cntT t 11 a b := by
  rw [bits_or, into_u]
  show into t (orB 64 _ _) = into t (orB 64 _ _)
  unfold orB
  rw [ofInt_congr 64 (u_emod a), ofInt_congr 64 (u_emod b)]
theorem spec_xor (t a b : Int) : into t (bits BinOp.xor IntKind.u64 (IntKind.u64.wrap a) (IntKind.u64.wrap b)) = cntT t 12 a b := by
  rw [bits_xor, into_u]
  show into t (xorB 64 _ _) = into t (xorB 64 _ _)
  unfold xorB
  rw [ofInt_congr 64 (u_emod a), ofInt_congr 64 (u_emod b)]
theorem spec_and (t a b : Int) : into t (bits BinOp.and IntKind.u64 (IntKind.u64.wrap a) (IntKind.u64.wrap b)) = cntT t 16 a b := by
  rw [bits_and, into_u]
  show into t (andB 64 _ _) = into t (andB 64 _ _)
  unfold andB
  rw [ofInt_congr 64 (u_emod a), ofInt_congr 64 (u_emod b)]
theorem bits_bd (op : BinOp) (x y : Int) : 0 ≤ bits op IntKind.u64 x y ∧ bits op IntKind.u64 x y ≤ 18446744073709551615 := by
  have h : ∀ n : Int, 0 ≤ IntKind.u64.wrap n ∧ IntKind.u64.wrap n ≤ 18446744073709551615 := fun n => by
    simp [IntKind.wrap, IntKind.bits, IntKind.signed]; omega
  unfold bits
  first | exact h _ | (split <;> first | exact h _ | exact ⟨by decide, by decide⟩)
theorem kt_signed {t a : Int} (h7 : 7 ≤ t) (h10 : t ≤ 10) (h : a = into t a) : (kT t).wrap a = a := by
  obtain rfl | rfl | rfl | rfl : t = 7 ∨ t = 8 ∨ t = 9 ∨ t = 10 := by omega
  all_goals (simp [into, intoK, kT7, kT8, kT9, kT10, IntKind.wrap, IntKind.bits, IntKind.signed] at h ⊢; omega)
theorem kt_unsigned {t a : Int} (h3 : 3 ≤ t) (h6 : t ≤ 6) (h : a = into t a) : (kT t).wrap a = IntKind.u64.wrap a := by
  obtain rfl | rfl | rfl | rfl : t = 3 ∨ t = 4 ∨ t = 5 ∨ t = 6 := by omega
  all_goals (simp [into, intoK, kT3, kT4, kT5, kT6, IntKind.wrap, IntKind.bits, IntKind.signed] at h ⊢ <;> omega)
theorem kt_eq {t a b : Int} (ha : a = into t a) (hb : b = into t b) : a = b ↔ (kT t).wrap a = (kT t).wrap b := by
  refine ⟨fun h => by rw [h], fun h => ?_⟩
  rw [ha, hb]
  unfold into intoK
  rw [h]
end Go.Proofs.YtabefhpgeaihgaaGreatDoor.V
