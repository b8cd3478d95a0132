import Derived.Test.YtdhcjmlcpnljiaaDoorPlain2
import Derived.Lib.ParseIntB
namespace Go.Proofs.YtdhcjmlcpnljiaaDoor
def dfold (acc : Nat) (l : List UInt8) : Nat := l.foldl (fun a c => a * 10 + (c.toNat - 48)) acc
theorem dfold_cons (acc : Nat) (c : UInt8) (l : List UInt8) : dfold acc (c :: l) = dfold (acc * 10 + (c.toNat - 48)) l := by unfold dfold; rw [List.foldl_cons]
theorem dfold_ge (acc : Nat) (l : List UInt8) : acc ≤ dfold acc l := by
  induction l generalizing acc with
  | nil => exact Nat.le_refl _
  | cons c l ih => rw [dfold_cons]; have := ih (acc * 10 + (c.toNat - 48)); omega
theorem digB_iff (c : UInt8) : digB c = true ↔ 48 ≤ c.toNat ∧ c.toNat ≤ 57 := by
  unfold digB dig; simp; omega
theorem pu_ok (M : Nat) (hM : 9223372036854775807 ≤ M) (acc : Nat) (l : List UInt8) (hd : ∀ c ∈ l, digB c = true) (hb : dfold acc l ≤ 9223372036854775807) : Lib.parseUintM M acc l = .ok (dfold acc l) := by
  induction l generalizing acc with
  | nil => rfl
  | cons c l ih =>
    have h1 := (digB_iff c).1 (hd c (List.mem_cons_self ..))
    rw [dfold_cons] at hb ⊢
    have h2 := dfold_ge (acc * 10 + (c.toNat - 48)) l
    unfold Lib.parseUintM
    rw [if_pos h1, if_neg (by omega), if_neg (by omega)]
    exact ih _ (fun x hx => hd x (List.mem_cons_of_mem _ hx)) hb
theorem pu_of (M : Nat) (acc : Nat) (l : List UInt8) (u : Nat) (h : Lib.parseUintM M acc l = .ok u) : (∀ c ∈ l, digB c = true) ∧ u = dfold acc l := by
  induction l generalizing acc with
  | nil => unfold Lib.parseUintM at h; cases h; exact ⟨fun c hc => by simp at hc, rfl⟩
  | cons c l ih =>
    unfold Lib.parseUintM at h
    split at h
    · rename_i h1
      split at h
      · cases h
      · split at h
        · cases h
        · have := ih _ h
          refine ⟨fun x hx => ?_, this.2⟩
          rcases List.mem_cons.1 hx with e | e
          · rw [e]; exact (digB_iff c).2 h1
          · exact this.1 x e
    · cases h
theorem two63 : (2 : Nat) ^ (64 - 1) = 9223372036854775808 := by decide
theorem two64 : 9223372036854775807 ≤ (2 : Nat) ^ 64 - 1 := by decide
theorem pi_ok (c : UInt8) (r : List UInt8) (hd : ∀ x ∈ c :: r, digB x = true) (hb : dval (c :: r) ≤ 9223372036854775807) : Lib.parseIntB 64 (c :: r) = .ok (dval (c :: r) : Int) := by
  have h1 := (digB_iff c).1 (hd c (List.mem_cons_self ..))
  have hu := pu_ok (2 ^ 64 - 1) two64 0 (c :: r) hd hb
  unfold Lib.parseIntB Lib.parseUintB
  simp only
  rw [if_neg (show ¬ (c.toNat = 43 ∨ c.toNat = 45) by omega), if_neg (by simp), hu]
  simp only
  rw [if_neg, if_neg, if_neg]
  · rfl
  · omega
  · rintro ⟨h, _⟩; omega
  · rintro ⟨_, h⟩
    rw [two63] at h
    have : dfold 0 (c :: r) = dval (c :: r) := rfl
    omega
theorem pi_of (c : UInt8) (r : List UInt8) (v : Int) (hc : digB c = true) (h : Lib.parseIntB 64 (c :: r) = .ok v) : (∀ x ∈ c :: r, digB x = true) ∧ v = dval (c :: r) ∧ dval (c :: r) ≤ 9223372036854775807 := by
  have h1 := (digB_iff c).1 hc
  unfold Lib.parseIntB Lib.parseUintB at h
  simp only at h
  rw [if_neg (show ¬ (c.toNat = 43 ∨ c.toNat = 45) by omega), if_neg (by simp)] at h
  cases hu : Lib.parseUintM (2 ^ 64 - 1) 0 (c :: r) with
  | ok u =>
    rw [hu] at h
    simp only at h
    obtain ⟨h2, h3⟩ := pu_of _ _ _ _ hu
    have e : dfold 0 (c :: r) = dval (c :: r) := rfl
    split at h
    · cases h
    · rename_i hx
      rw [two63] at hx
      split at h
      · cases h
      · rw [if_neg (by omega)] at h
        cases h
        refine ⟨h2, by rw [h3, e], ?_⟩
        rw [← e, ← h3]
        apply Nat.le_of_not_lt; intro hh
        exact hx ⟨by omega, by omega⟩
  | _ => rw [hu] at h; cases h
/-- The number that the program's own way reads: a piece of k bytes of names, the first of them a digit. -/
theorem num_parse (L : List UInt8) (c : UInt8) (r : List UInt8) (hL : L = c :: r) (hc : digB c = true) :
    (∀ v, Lib.parseIntB 64 (L.take (run letB L)) = .ok v → run digB L = run letB L ∧ v = dval (L.take (run letB L)) ∧ dval (L.take (run letB L)) ≤ 9223372036854775807) ∧
    ((∀ v, Lib.parseIntB 64 (L.take (run letB L)) ≠ .ok v) → numOne L = One.bad 3) := by
  have hk : 1 ≤ run letB L := by rw [hL]; exact run_pos _ _ _ (dig_let hc)
  obtain ⟨k, hk'⟩ : ∃ k, run letB L = k + 1 := ⟨run letB L - 1, by omega⟩
  have ht : L.take (run letB L) = c :: r.take k := by rw [hk', hL]; rfl
  have hall : (∀ x ∈ L.take (run letB L), digB x = true) ↔ run digB L = run letB L := by
    have hm := run_mono (fun c => dig_let (c := c)) L
    have hle := run_le letB L
    constructor
    · intro h
      apply Nat.le_antisymm hm
      apply Nat.le_of_not_lt; intro hlt
      have hl : run digB L < L.length := by omega
      have h2 : digB L[run digB L] = true := by
        apply h
        rw [List.mem_take_iff_getElem]
        exact ⟨run digB L, by omega, rfl⟩
      have := run_step digB L _ (Nat.le_refl _) hl h2
      omega
    · intro h x hx
      rw [List.mem_take_iff_getElem] at hx
      obtain ⟨i, hi, rfl⟩ := hx
      exact run_all digB L (run digB L) (Nat.le_refl _) i (by omega) (by omega)
  constructor
  · intro v hv
    rw [ht] at hv
    obtain ⟨h1, h2, h3⟩ := pi_of c _ v hc hv
    rw [← ht] at h1 h2 h3
    exact ⟨hall.1 h1, h2, h3⟩
  · intro h
    by_cases hd : run digB L = run letB L
    · by_cases hb : dval (L.take (run letB L)) ≤ 9223372036854775807
      · exfalso
        have h1 := hall.2 hd
        rw [ht] at h1 hb h
        exact h _ (pi_ok c _ h1 hb)
      · exact num_bad L _ hd (.inr (.inr (by omega)))
    · exact num_bad L _ rfl (.inl (fun e => hd e.symm))
end Go.Proofs.YtdhcjmlcpnljiaaDoor
