import Derived.Test.YtdhcjmlcpnljiaaDoorMSLeaf
import Derived.Test.YtdhcjmlcpnljiaaDoorITxt
namespace Go.Proofs.YtdhcjmlcpnljiaaDoor
theorem dval_append (a b : List UInt8) : dval (a ++ b) = dfold (dval a) b := by unfold dval dfold; rw [List.foldl_append]
theorem dval_take_mono (p : List UInt8) (i j : Nat) (h : i ≤ j) : dval (p.take i) ≤ dval (p.take j) := by
  have e : p.take j = p.take i ++ (p.take j).drop i := by
    have h1 := List.take_append_drop i (p.take j)
    rw [List.take_take, Nat.min_eq_left h] at h1
    exact h1.symm
  rw [e, dval_append]; exact dfold_ge _ _
theorem dfold_pow (acc : Nat) (l : List UInt8) : acc * 10 ^ l.length ≤ dfold acc l := by
  induction l generalizing acc with
  | nil => simp [dfold]
  | cons c l ih =>
    rw [dfold_cons]
    refine Nat.le_trans ?_ (ih _)
    rw [List.length_cons, Nat.pow_succ, Nat.mul_comm (10 ^ l.length) 10, ← Nat.mul_assoc]
    exact Nat.mul_le_mul_right _ (by omega)
theorem dval_big (c : UInt8) (r : List UInt8) (k : Nat) (hk : 20 < k) (hl : k ≤ r.length + 1) (hc : 49 ≤ c.toNat) : 18446744073709551615 < dval ((c :: r).take k) := by
  obtain ⟨m, rfl⟩ : ∃ m, k = m + 1 := ⟨k - 1, by omega⟩
  rw [List.take_succ_cons]
  have e : dval (c :: r.take m) = dfold (c.toNat - 48) (r.take m) := by unfold dval dfold; simp
  rw [e]
  have h1 := dfold_pow (c.toNat - 48) (r.take m)
  rw [List.length_take, Nat.min_eq_left (by omega)] at h1
  have h2 : 10 ^ 20 ≤ 10 ^ m := Nat.pow_le_pow_right (by decide) (by omega)
  have h3 : 1 * 10 ^ m ≤ (c.toNat - 48) * 10 ^ m := Nat.mul_le_mul_right _ (by omega)
  have h4 : (10 : Nat) ^ 20 = 100000000000000000000 := by decide
  omega
theorem mnumP_bad {p : List UInt8} (h : numTy p < 3 ∨ (p.take 1 = [48] ∧ 1 < run digB p) ∨ mmax (numTy p) < dval (p.take (run digB p))) : mnumP p = MOne.bad 3 := if_pos h
theorem mnumP_good {p : List UInt8} (h1 : 3 ≤ numTy p) (h2 : ¬ (p.take 1 = [48] ∧ 1 < run digB p)) (h3 : dval (p.take (run digB p)) ≤ mmax (numTy p)) :
    mnumP p = ⟨3, [], numTy p, s64 (dval (p.take (run digB p))), p.length, 0⟩ := if_neg (by
  rintro (h | h | h)
  · omega
  · exact h2 h
  · omega)
/-- Too many digits are too many, whatever they are. -/
theorem mnumP_long (p : List UInt8) (hp : 0 < p.length) (hd : 0 < run digB p) (hk : 20 < run digB p) : mnumP p = MOne.bad 3 := by
  cases p with
  | nil => simp at hp
  | cons c r =>
    have hdc : digB c = true := run_all digB (c :: r) _ (Nat.le_refl _) 0 hd (by simp)
    have h1 := (digB_iff c).1 hdc
    have hl := run_le digB (c :: r)
    rw [List.length_cons] at hl
    by_cases h48 : c.toNat = 48
    · exact mnumP_bad (.inr (.inl ⟨(sing48 c).2 h48, by omega⟩))
    · refine mnumP_bad (.inr (.inr ?_))
      have h2 := dval_big c r (run digB (c :: r)) hk hl (by omega)
      have h3 := (mmax_le (numTy (c :: r))).1
      omega
def intV (o : MOne) : Value := if o.code = 0 then .tuple #[.int .i64 o.ty, .int .i64 o.n, .bool true] else .tuple #[.int .i64 0, .int .i64 0, .bool false]
theorem intV_bad {o : MOne} (h : o = MOne.bad 3) : intV o = .tuple #[.int .i64 0, .int .i64 0, .bool false] := by subst h; exact if_neg (by decide)
theorem intV_good {o : MOne} {t : Nat} {n : Int} {z : Nat} (h : o = ⟨3, [], t, n, z, 0⟩) : intV o = .tuple #[.int .i64 t, .int .i64 n, .bool true] := by subst h; exact if_pos rfl
theorem s64_wrap (x : Nat) (h : x ≤ 18446744073709551615) : IntKind.i64.wrap (x : Int) = s64 x := by
  rw [IntKind.wrap_i64]; unfold s64; split <;> omega
end Go.Proofs.YtdhcjmlcpnljiaaDoor
