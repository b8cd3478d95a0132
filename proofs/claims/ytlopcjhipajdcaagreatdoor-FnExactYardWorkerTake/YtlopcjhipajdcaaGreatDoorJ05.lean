import Derived.Test.YtlopcjhipajdcaaGreatDoorJ04
/-! Jobs: whether one is valid, by both sides. -/
namespace Go.Proofs.YtlopcjhipajdcaaGreatDoor.J
open Go.RowKit
set_option maxRecDepth 20000
def ltB (a b : ByteArray) : Bool := Go.Op.bytesLess a.toList b.toList
/-- The i-th text is a name of a file, above the one ahead of it. -/
def OutOk (s : Nat → ByteArray) (i : Nat) : Prop := FileOk (s i) ∧ (0 < i → ltB (s (i - 1)) (s i) = true)
def JobOk (a : ByteArray) (N : Nat) (s : Nat → ByteArray) : Prop := a.size ≤ 3000 ∧ N ≤ 20 ∧ ∀ i, i < N → OutOk s i
theorem all_step {P : Nat → Prop} {k : Nat} (h : ∀ i, i < k → P i) (hk : P k) : ∀ i, i < k + 1 → P i := fun i hi => by
  rcases Nat.lt_or_eq_of_le (Nat.lt_succ_iff.1 hi) with h' | h'
  · exact h i h'
  · subst h'; exact hk
end Go.Proofs.YtlopcjhipajdcaaGreatDoor.J
