import Derived.Test.YtjbhadpdbcelcaaDoorQFldA
import Derived.Test.YtjbhadpdbcelcaaDoorQFldB
import Derived.Test.YtjbhadpdbcelcaaDoorQFldC
import Derived.Test.YtjbhadpdbcelcaaDoorQFldD
/-! Printed by gen_fld.py. -/
namespace Go.Proofs.YtjbhadpdbcelcaaDoor.Q
open Go.RowKit Go.Shelf
set_option maxRecDepth 20000
theorem l11Fields_any (x : Nd) (w : World) (ht : x.text.size ≤ maxLen) :
    Calls Tryd.prog 11 #[ndV x] w fun e w' => Says e (PlainNd x) ∧ Below w.heap.size w w' := by
  obtain ⟨k, op, ty, n, t, kids⟩ := x
  have h : PF k := by
    by_cases hk : k < 1 ∨ 24 < k
    · exact fld_E k hk
    · obtain rfl | rfl | rfl | rfl | rfl | rfl | rfl | rfl | rfl | rfl | rfl | rfl | rfl | rfl | rfl | rfl | rfl | rfl | rfl | rfl | rfl | rfl | rfl | rfl : k = 1 ∨ k = 2 ∨ k = 3 ∨ k = 4 ∨ k = 5 ∨ k = 6 ∨ k = 7 ∨ k = 8 ∨ k = 9 ∨ k = 10 ∨ k = 11 ∨ k = 12 ∨ k = 13 ∨ k = 14 ∨ k = 15 ∨ k = 16 ∨ k = 17 ∨ k = 18 ∨ k = 19 ∨ k = 20 ∨ k = 21 ∨ k = 22 ∨ k = 23 ∨ k = 24 := by omega
      · exact fld_1
      · exact fld_2
      · exact fld_3
      · exact fld_4
      · exact fld_5
      · exact fld_6
      · exact fld_7
      · exact fld_8
      · exact fld_9
      · exact fld_10
      · exact fld_11
      · exact fld_12
      · exact fld_13
      · exact fld_14
      · exact fld_15
      · exact fld_16
      · exact fld_17
      · exact fld_18
      · exact fld_19
      · exact fld_20
      · exact fld_21
      · exact fld_22
      · exact fld_23
      · exact fld_24
  exact h op ty n kids t w ht
end Go.Proofs.YtjbhadpdbcelcaaDoor.Q
