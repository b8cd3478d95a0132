import Derived.Test.YtjbhadpdbcelcaaDoorQUsA
import Derived.Test.YtjbhadpdbcelcaaDoorQUsB
import Derived.Test.YtjbhadpdbcelcaaDoorQUsC
import Derived.Test.YtjbhadpdbcelcaaDoorQUsD
/-! Printed by gen_fld.py. -/
namespace Go.Proofs.YtjbhadpdbcelcaaDoor.Q
open Go.RowKit Go.Shelf
set_option maxRecDepth 20000
theorem usesFit_any (x : Nd) (r : Nat) (w : World) (ht : x.text.size ≤ maxLen) (hr : w.heap[r]? = some (.map (mwE 35) 35)) :
    Calls Tryd.prog 15 #[ndV x, .map (some r)] w fun e w' => Says e (PlainNd x) ∧ Below w.heap.size w w' := by
  obtain ⟨k, op, ty, n, t, kids⟩ := x
  have h : UF k := by
    by_cases hk : k < 1 ∨ 24 < k
    · exact us_E k hk
    · obtain rfl | rfl | rfl | rfl | rfl | rfl | rfl | rfl | rfl | rfl | rfl | rfl | rfl | rfl | rfl | rfl | rfl | rfl | rfl | rfl | rfl | rfl | rfl | rfl : k = 1 ∨ k = 2 ∨ k = 3 ∨ k = 4 ∨ k = 5 ∨ k = 6 ∨ k = 7 ∨ k = 8 ∨ k = 9 ∨ k = 10 ∨ k = 11 ∨ k = 12 ∨ k = 13 ∨ k = 14 ∨ k = 15 ∨ k = 16 ∨ k = 17 ∨ k = 18 ∨ k = 19 ∨ k = 20 ∨ k = 21 ∨ k = 22 ∨ k = 23 ∨ k = 24 := by omega
      · exact us_1
      · exact us_2
      · exact us_3
      · exact us_4
      · exact us_5
      · exact us_6
      · exact us_7
      · exact us_8
      · exact us_9
      · exact us_10
      · exact us_11
      · exact us_12
      · exact us_13
      · exact us_14
      · exact us_15
      · exact us_16
      · exact us_17
      · exact us_18
      · exact us_19
      · exact us_20
      · exact us_21
      · exact us_22
      · exact us_23
      · exact us_24
  exact h op ty n kids t r w ht hr
end Go.Proofs.YtjbhadpdbcelcaaDoor.Q
