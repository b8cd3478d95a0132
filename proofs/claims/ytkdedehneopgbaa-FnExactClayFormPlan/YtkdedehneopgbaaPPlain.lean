import Derived.Test.YtkdedehneopgbaaPBase
/-! The form of a plan, as plain mathematics. -/
namespace Go.Proofs.Ytkdedehneopgbaa
def hexd (n : Nat) : UInt8 := if n < 10 then UInt8.ofNat (48 + n) else UInt8.ofNat (87 + n)
def quoteB (b : UInt8) : List UInt8 := if 32 ≤ b.toNat ∧ b.toNat ≤ 126 ∧ b.toNat ≠ 34 ∧ b.toNat ≠ 92 then [b] else [92, hexd (b.toNat / 16), hexd (b.toNat % 16)]
def quoteL (t : List UInt8) : List UInt8 := 34 :: (t.flatMap quoteB ++ [34])
theorem quoteB_len (b : UInt8) : (quoteB b).length ≤ 3 := by unfold quoteB; split <;> simp
theorem quoteL_len (t : List UInt8) : (quoteL t).length ≤ 3 * t.length + 2 := by
  have : (t.flatMap quoteB).length ≤ 3 * t.length := by
    induction t with
    | nil => simp
    | cons a t ih => have := quoteB_len a; simp only [List.flatMap_cons, List.length_append, List.length_cons]; omega
  simp only [quoteL, List.length_cons, List.length_append, List.length_nil]; omega
end Go.Proofs.Ytkdedehneopgbaa
