import Derived.Test.YtkfkolefbficgaaWUsA
import Derived.Test.YtkfkolefbficgaaWUsB
namespace Go.Proofs.Ytkfkolefbficgaa
open Go.RowKit
theorem usesFit_any (x : Nd) (r : Nat) (w : World) (ht : x.text.size ≤ maxLen) (hr : w.heap[r]? = some (.map (wordE 17) 17)) :
    Calls Try.prog 16 #[ndV x, .map (some r)] w fun e w' => Says e (PlainNd x ∧ 1 ≤ x.kind ∧ x.kind ≤ 24) ∧ Below w.heap.size w w' := by
  obtain ⟨k, op, n, t, kids⟩ := x
  have h : UF k := by
    by_cases a : k = 1 ∨ k = 8 ∨ k = 9 ∨ k = 10 ∨ k = 12 ∨ k = 13 ∨ k = 15 ∨ k = 22 ∨ k = 24
    · exact UF_A k a
    · by_cases b : k = 2 ∨ k = 3 ∨ k = 4 ∨ k = 17 ∨ k = 6 ∨ k = 7
      · exact UF_B k b
      · by_cases c : k = 5 ∨ k = 11 ∨ k = 14 ∨ k = 16 ∨ k = 18 ∨ k = 19 ∨ k = 20 ∨ k = 21
        · exact UF_C k c
        · by_cases d : k = 23
          · subst d; exact UF_23
          · exact UF_E k (by omega)
  exact h op n kids t r w ht hr
end Go.Proofs.Ytkfkolefbficgaa
