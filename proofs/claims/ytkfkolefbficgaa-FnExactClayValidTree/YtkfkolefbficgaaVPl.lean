import Derived.Test.YtkfkolefbficgaaVPlA
import Derived.Test.YtkfkolefbficgaaVPlB
import Derived.Test.YtkfkolefbficgaaVPlC
import Derived.Test.YtkfkolefbficgaaVPlD
import Derived.Test.YtkfkolefbficgaaVPlE
namespace Go.Proofs.Ytkfkolefbficgaa
open Go.RowKit
theorem l2Plain_any (x : Nd) (w : World) (ht : x.text.size ≤ maxLen) :
    Calls Try.prog 12 #[ndV x] w fun e w' => Says e (PlainNd x) ∧ Below w.heap.size w w' := by
  obtain ⟨k, op, n, t, kids⟩ := x
  have h : Pl1 k := by
    by_cases a : k = 1 ∨ k = 2 ∨ k = 3 ∨ k = 4 ∨ k = 5 ∨ k = 6
    · exact l2Plain_A k a
    · by_cases b : k = 7 ∨ k = 8 ∨ k = 9 ∨ k = 10 ∨ k = 11 ∨ k = 12
      · exact l2Plain_B k b
      · by_cases c : k = 13 ∨ k = 14 ∨ k = 15 ∨ k = 16 ∨ k = 17 ∨ k = 18
        · exact l2Plain_C k c
        · by_cases d : k = 19 ∨ k = 20 ∨ k = 21 ∨ k = 22 ∨ k = 23 ∨ k = 24
          · exact l2Plain_D k d
          · exact l2Plain_E k (by omega)
  exact h op n kids t w ht
end Go.Proofs.Ytkfkolefbficgaa
