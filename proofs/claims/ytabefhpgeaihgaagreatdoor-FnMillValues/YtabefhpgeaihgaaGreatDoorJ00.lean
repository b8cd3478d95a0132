import Derived.WalkKit
import Derived.Below
import Derived.Test.YtabefhpgeaihgaaGreatDoorProg
import Derived.WalkSpells
import Derived.WalkLawsBesides
import Derived.Deep.QuietTactic
import Derived.BigQuiet
import Derived.Lib.Bytealg
import Derived.Lib.Strings
import Derived.BigCall
import Derived.Shelf.Abstract
/-! Numbers of Mill's types as plain mathematics. -/
namespace Go.Proofs.YtabefhpgeaihgaaGreatDoor.V
open Go.RowKit
set_option maxRecDepth 20000
/-- The kind of an integer type. -/
def kT (t : Int) : IntKind :=
  if t = 3 then .u8 else if t = 4 then .u16 else if t = 5 then .u32 else if t = 6 then .u64
  else if t = 7 then .i8 else if t = 8 then .i16 else if t = 9 then .i32 else .i64
theorem kT3 : kT 3 = .u8 := rfl
theorem kT4 : kT 4 = .u16 := rfl
theorem kT5 : kT 5 = .u32 := rfl
theorem kT6 : kT 6 = .u64 := rfl
theorem kT7 : kT 7 = .i8 := rfl
theorem kT8 : kT 8 = .i16 := rfl
theorem kT9 : kT 9 = .i32 := rfl
theorem kT10 : kT 10 = .i64 := rfl
/-- A number taken into a kind, as it lies in N. -/
def intoK (K : IntKind) (n : Int) : Int := IntKind.i64.wrap (K.wrap n)
def into (t n : Int) : Int := intoK (kT t) n
theorem bits_dvd (K : IntKind) : (2 ^ K.bits : Int) ∣ 2 ^ 64 := by
  cases K <;> (simp only [IntKind.bits]; decide)
theorem wrap_emod (K : IntKind) (n : Int) : K.wrap n % 2 ^ K.bits = n % 2 ^ K.bits := by
  cases K <;> simp [IntKind.wrap, IntKind.bits, IntKind.signed] <;> (try split) <;> omega
theorem wrap_congr (K : IntKind) {n m : Int} (h : n % 2 ^ K.bits = m % 2 ^ K.bits) : K.wrap n = K.wrap m := by
  unfold IntKind.wrap
  rw [h]
theorem wrap_wrap (K : IntKind) (n : Int) : K.wrap (K.wrap n) = K.wrap n := wrap_congr K (wrap_emod K n)
theorem emod_down (K : IntKind) {n m : Int} (h : n % 2 ^ 64 = m % 2 ^ 64) : n % 2 ^ K.bits = m % 2 ^ K.bits := by
  have h2 : n % 2 ^ 64 % 2 ^ K.bits = m % 2 ^ 64 % 2 ^ K.bits := by rw [h]
  rwa [Int.emod_emod_of_dvd _ (bits_dvd K), Int.emod_emod_of_dvd _ (bits_dvd K)] at h2
theorem u64_emod (K : IntKind) (n : Int) : IntKind.u64.wrap n % 2 ^ K.bits = n % 2 ^ K.bits := emod_down K (wrap_emod .u64 n)
theorem i64_emod (K : IntKind) (n : Int) : IntKind.i64.wrap n % 2 ^ K.bits = n % 2 ^ K.bits := emod_down K (wrap_emod .i64 n)
theorem intoK_congr (K : IntKind) {n m : Int} (h : n % 2 ^ K.bits = m % 2 ^ K.bits) : intoK K n = intoK K m := by
  unfold intoK; rw [wrap_congr K h]
theorem intoK_emod (K : IntKind) (n : Int) : intoK K n % 2 ^ K.bits = n % 2 ^ K.bits := by
  unfold intoK; rw [i64_emod, wrap_emod]
theorem intoK_u64 (K : IntKind) (n : Int) : intoK K (IntKind.u64.wrap n) = intoK K n := intoK_congr K (u64_emod K n)
theorem intoK_wrap (K : IntKind) (n : Int) : intoK K (K.wrap n) = intoK K n := intoK_congr K (wrap_emod K n)
theorem intoK_intoK (K : IntKind) (n : Int) : intoK K (intoK K n) = intoK K n := intoK_congr K (intoK_emod K n)
theorem wrap_intoK (K : IntKind) (n : Int) : K.wrap (intoK K n) = K.wrap n := wrap_congr K (intoK_emod K n)
theorem add_congr (M a b c d : Int) (h : a % M = c % M) (k : b % M = d % M) : (a + b) % M = (c + d) % M := by
  rw [Int.add_emod, h, k, ← Int.add_emod]
theorem sub_congr (M a b c d : Int) (h : a % M = c % M) (k : b % M = d % M) : (a - b) % M = (c - d) % M := by
  rw [Int.sub_emod, h, k, ← Int.sub_emod]
theorem mul_congr (M a b c d : Int) (h : a % M = c % M) (k : b % M = d % M) : (a * b) % M = (c * d) % M := by
  rw [Int.mul_emod, h, k, ← Int.mul_emod]
/-! Bits. -/
def orB (n : Nat) (a b : Int) : Int := ((BitVec.ofInt n a ||| BitVec.ofInt n b).toNat : Int)
def xorB (n : Nat) (a b : Int) : Int := ((BitVec.ofInt n a ^^^ BitVec.ofInt n b).toNat : Int)
def andB (n : Nat) (a b : Int) : Int := ((BitVec.ofInt n a &&& BitVec.ofInt n b).toNat : Int)
theorem ofInt_congr (n : Nat) {a b : Int} (h : a % 2 ^ n = b % 2 ^ n) : BitVec.ofInt n a = BitVec.ofInt n b := by
  apply BitVec.eq_of_toNat_eq
  have h2 : a % (2 ^ n : Nat) = b % (2 ^ n : Nat) := by simpa using h
  rw [BitVec.toNat_ofInt, BitVec.toNat_ofInt, h2]
theorem set_ofInt (n : Nat) (h : n ≤ 64) (a : Int) : (BitVec.ofInt 64 a).setWidth n = BitVec.ofInt n a := by
  apply BitVec.eq_of_toNat_eq
  rw [BitVec.toNat_setWidth, BitVec.toNat_ofInt, BitVec.toNat_ofInt]
  have hd : ((2 ^ n : Nat) : Int) ∣ ((2 ^ 64 : Nat) : Int) := Int.natCast_dvd_natCast.2 (Nat.pow_dvd_pow 2 h)
  have h0 : 0 ≤ a % ((2 ^ 64 : Nat) : Int) := Int.emod_nonneg _ (by decide)
  have h1 : 0 ≤ a % ((2 ^ n : Nat) : Int) := Int.emod_nonneg _ (by exact_mod_cast Nat.ne_of_gt (Nat.two_pow_pos n))
  have e := Int.emod_emod_of_dvd a hd
  apply Int.ofNat_inj.1
  rw [Int.natCast_emod, Int.toNat_of_nonneg h0, Int.toNat_of_nonneg h1]
  exact e
theorem bits_le (K : IntKind) : K.bits ≤ 64 := by cases K <;> decide
theorem toNat_emod (n : Nat) (r : BitVec 64) : ((r.toNat : Nat) : Int) % 2 ^ n = ((r.setWidth n).toNat : Int) % 2 ^ n := by
  rw [BitVec.toNat_setWidth]
  have : ((2 : Int) ^ n) = ((2 ^ n : Nat) : Int) := by simp
  rw [this]
  norm_cast
  simp
theorem or_down (K : IntKind) (a b c d : Int) (h : a % 2 ^ K.bits = c % 2 ^ K.bits) (k : b % 2 ^ K.bits = d % 2 ^ K.bits) : orB 64 a b % 2 ^ K.bits = orB K.bits c d % 2 ^ K.bits := by
  unfold orB
  rw [toNat_emod K.bits, BitVec.setWidth_or, set_ofInt _ (bits_le K), set_ofInt _ (bits_le K), ofInt_congr _ h, ofInt_congr _ k]
theorem xor_down (K : IntKind) (a b c d : Int) (h : a % 2 ^ K.bits = c % 2 ^ K.bits) (k : b % 2 ^ K.bits = d % 2 ^ K.bits) : xorB 64 a b % 2 ^ K.bits = xorB K.bits c d % 2 ^ K.bits := by
  unfold xorB
  rw [toNat_emod K.bits, BitVec.setWidth_xor, set_ofInt _ (bits_le K), set_ofInt _ (bits_le K), ofInt_congr _ h, ofInt_congr _ k]
theorem and_down (K : IntKind) (a b c d : Int) (h : a % 2 ^ K.bits = c % 2 ^ K.bits) (k : b % 2 ^ K.bits = d % 2 ^ K.bits) : andB 64 a b % 2 ^ K.bits = andB K.bits c d % 2 ^ K.bits := by
  unfold andB
  rw [toNat_emod K.bits, BitVec.setWidth_and, set_ofInt _ (bits_le K), set_ofInt _ (bits_le K), ofInt_congr _ h, ofInt_congr _ k]
/-! Quotient and rest. -/
theorem tdiv_abs (a b : Int) : a.tdiv b = if (a < 0) = (b < 0) then ((a.natAbs / b.natAbs : Nat) : Int) else - ((a.natAbs / b.natAbs : Nat) : Int) := by
  rcases Int.natAbs_eq a with ha | ha <;> rcases Int.natAbs_eq b with hb | hb <;> generalize a.natAbs = x at * <;> generalize b.natAbs = y at * <;> subst ha <;> subst hb
  all_goals simp [Int.neg_tdiv, Int.tdiv_neg]
  all_goals rcases Nat.eq_zero_or_pos x with h | h <;> rcases Nat.eq_zero_or_pos y with k | k <;> (try subst h) <;> (try subst k) <;> (try simp) <;> (try omega)
theorem tmod_abs (a b : Int) : a.tmod b = if a < 0 then - ((a.natAbs % b.natAbs : Nat) : Int) else ((a.natAbs % b.natAbs : Nat) : Int) := by
  rcases Int.natAbs_eq a with ha | ha <;> rcases Int.natAbs_eq b with hb | hb <;> generalize a.natAbs = x at * <;> generalize b.natAbs = y at * <;> subst ha <;> subst hb
  all_goals have e : (x : Int).tmod (y : Int) = ((x % y : Nat) : Int) := rfl
  all_goals rcases Nat.eq_zero_or_pos x with h | h <;> (try subst h)
  all_goals simp [Int.neg_tmod, Int.tmod_neg, e]
  all_goals (intro hh; omega)
/-- How two numbers, or texts, compare. -/
def cmpB (op a b : Int) : Bool :=
  if op = 3 then decide (a = b) else if op = 4 then !decide (a = b) else if op = 5 then decide (a < b)
  else if op = 6 then decide (a ≤ b) else if op = 7 then decide (b < a) else decide (b ≤ a)
/-- How far a shift by b goes. -/
def shN (b : Int) : Int := if b < 0 then 64 else b
theorem shN_bd (b : Int) (_h1 : -9223372036854775808 ≤ b) (h2 : b ≤ 18446744073709551615) : 0 ≤ shN b ∧ shN b ≤ 18446744073709551615 := by
  unfold shN; split <;> omega
/-- A shift of a kind by q bits. -/
def cntS (K : IntKind) (op a q : Int) : Int := if op = 17 then K.wrap (a * 2 ^ min q.toNat K.bits) else a.fdiv (2 ^ min q.toNat K.bits)
/-- What an op of a kind counts. -/
def cntK (K : IntKind) (op a b : Int) : Int :=
  if op = 9 then K.wrap (a + b) else if op = 10 then K.wrap (a - b) else if op = 11 then K.wrap (orB K.bits a b)
  else if op = 12 then K.wrap (xorB K.bits a b) else if op = 13 then K.wrap (a * b) else if op = 14 then K.wrap (a.tdiv b)
  else if op = 15 then a.tmod b else if op = 16 then K.wrap (andB K.bits a b) else cntS K op a (shN b)
theorem quo_u {K : IntKind} (hk : K.signed = false) {a b : Int} (h0 : 0 ≤ a) (h1 : a ≤ K.max) (hb : 1 ≤ b) : K.wrap (a.tdiv b) = a / b := by
  rw [Int.tdiv_eq_ediv_of_nonneg h0]
  have q1 : 0 ≤ a / b := Int.ediv_nonneg h0 (by omega)
  have q2 : a / b ≤ a := Int.ediv_le_self b h0
  cases K <;> simp [IntKind.signed, IntKind.max, IntKind.bits, IntKind.wrap] at * <;> omega
theorem shr_bd (a p : Int) (hp : 1 ≤ p) : (0 ≤ a → 0 ≤ a / p ∧ a / p ≤ a) ∧ (a < 0 → a ≤ a / p ∧ a / p < 0) := by
  refine ⟨fun h => ⟨Int.ediv_nonneg h (by omega), Int.ediv_le_self p h⟩, fun h => ⟨?_, ?_⟩⟩
  · refine Int.le_ediv_of_mul_le (by omega) ?_
    have := Int.mul_le_mul_of_nonpos_left (show a ≤ 0 by omega) hp
    omega
  · exact Int.ediv_neg_of_neg_of_pos h (by omega)
theorem fdiv_pow (a : Int) (n : Nat) : a.fdiv (2 ^ n) = a / 2 ^ n := Int.fdiv_eq_ediv_of_nonneg _ (Int.pow_nonneg (by decide))
theorem one_le_pow (n : Nat) : (1 : Int) ≤ 2 ^ n := by
  have := Nat.one_le_two_pow (n := n)
  have h : ((2 ^ n : Nat) : Int) = 2 ^ n := by simp
  omega
theorem tmod_bd (a b : Int) : (0 ≤ a → 0 ≤ a.tmod b ∧ a.tmod b ≤ a) ∧ (a < 0 → a ≤ a.tmod b ∧ a.tmod b ≤ 0) := by
  rw [tmod_abs]
  have := Nat.mod_le a.natAbs b.natAbs
  refine ⟨fun h => ?_, fun h => ?_⟩
  · rw [if_neg (by omega)]; omega
  · rw [if_pos h]; omega
theorem wr64 (n : Int) : -9223372036854775808 ≤ IntKind.i64.wrap n ∧ IntKind.i64.wrap n ≤ 9223372036854775807 := by
  simp [IntKind.wrap, IntKind.bits, IntKind.signed] <;> omega
theorem cnt64_bd (op a b : Int) (h1 : -9223372036854775808 ≤ a) (h2 : a ≤ 9223372036854775807) : -9223372036854775808 ≤ cntK .i64 op a b ∧ cntK .i64 op a b ≤ 9223372036854775807 := by
  unfold cntK cntS
  have t := tmod_bd a b
  have s := shr_bd a _ (one_le_pow (min (shN b).toNat IntKind.i64.bits))
  rw [fdiv_pow]
  repeat' split
  all_goals first | exact wr64 _ | omega
end Go.Proofs.YtabefhpgeaihgaaGreatDoor.V
/-! What both sides have of types, and taking a number into one. -/
namespace Go.Proofs.YtabefhpgeaihgaaGreatDoor.V
open Go.RowKit Go.Shelf
set_option maxRecDepth 20000
theorem ret_bool {a b : Bool} (h : a = b) : Ending.returned (.bool a) = .returned (.bool b) := by rw [h]
theorem ret_int {k : IntKind} {a b : Int} (h : a = b) : Ending.returned (.int k a) = .returned (.int k b) := by rw [h]
theorem hid {p : Prop} (h : p) : Hid p := h
set_option maxHeartbeats 400000 in
theorem l10Integer_any (t : Int) (w : World) :
    Calls Tryz.prog 14 #[.int .i64 t] w fun e w' => e = .returned (.bool (decide (3 ≤ t) && decide (t ≤ 10))) ∧ w' = w := by
  go_enter Tryz.func14, Tryz.ntmps14
  go_wp2
  all_goals go_ret
  all_goals exact ⟨ret_bool (by rw [Bool.eq_iff_iff]; simp; try omega), rfl⟩
set_option maxHeartbeats 400000 in
theorem millIsInteger_any (t : Int) (w : World) :
    Calls Tryz.prog 21 #[.int .i64 t] w fun e w' => e = .returned (.bool (decide (3 ≤ t) && decide (t ≤ 10))) ∧ w' = w := by
  go_enter Tryz.func21, Tryz.ntmps21
  go_wp2
  all_goals go_ret
  all_goals exact ⟨ret_bool (by rw [Bool.eq_iff_iff]; simp; try omega), rfl⟩
set_option maxHeartbeats 400000 in
theorem l10Signed_any (t : Int) (w : World) :
    Calls Tryz.prog 27 #[.int .i64 t] w fun e w' => e = .returned (.bool (decide (7 ≤ t) && decide (t ≤ 10))) ∧ w' = w := by
  go_enter Tryz.func27, Tryz.ntmps27
  go_wp2
  all_goals go_ret
  all_goals exact ⟨ret_bool (by rw [Bool.eq_iff_iff]; simp; try omega), rfl⟩
theorem typ8 {t : Int} (h1 : 3 ≤ t) (h2 : t ≤ 10) : t = 3 ∨ t = 4 ∨ t = 5 ∨ t = 6 ∨ t = 7 ∨ t = 8 ∨ t = 9 ∨ t = 10 := by omega
set_option maxHeartbeats 400000 in
theorem l10Bits_any (t : Int) (h1 : 3 ≤ t) (h2 : t ≤ 10) (w : World) :
    Calls Tryz.prog 26 #[.int .i64 t] w fun e w' => e = .returned (.int .i64 ((kT t).bits : Nat)) ∧ w' = w := by
  obtain rfl | rfl | rfl | rfl | rfl | rfl | rfl | rfl := typ8 h1 h2
  all_goals go_enter Tryz.func26, Tryz.ntmps26
  all_goals go_wp2
  all_goals go_ret
  all_goals exact ⟨rfl, rfl⟩
set_option maxHeartbeats 1000000 in
theorem l13Into_any (t x : Int) (h1 : 3 ≤ t) (h2 : t ≤ 10) (hx0 : 0 ≤ x) (hx : x ≤ 18446744073709551615) (w : World) :
    Calls Tryz.prog 16 #[.int .i64 t, .int .u64 x] w fun e w' => e = .returned (.int .i64 (into t x)) ∧ w' = w := by
  obtain rfl | rfl | rfl | rfl | rfl | rfl | rfl | rfl := typ8 h1 h2
  all_goals clear h1 h2
  all_goals go_enter Tryz.func16, Tryz.ntmps16
  all_goals go_wp2_with (first
    | (go_at_call 26; refine (l10Bits_any _ (by decide) (by decide) _).mono ?_; rintro e w' ⟨rfl, rfl⟩; simp only [kT3, kT4, kT5, kT6, kT7, kT8, kT9, kT10, IntKind.bits])
    | (go_at_call 27; refine (l10Signed_any _ _).mono ?_; rintro e w' ⟨rfl, rfl⟩; simp)
    | fail)
  all_goals go_ret
  all_goals exact ⟨ret_int (by simp [into, intoK, kT3, kT4, kT5, kT6, kT7, kT8, kT9, kT10, IntKind.wrap, IntKind.bits, IntKind.signed, wrap64]; try omega), rfl⟩
end Go.Proofs.YtabefhpgeaihgaaGreatDoor.V
