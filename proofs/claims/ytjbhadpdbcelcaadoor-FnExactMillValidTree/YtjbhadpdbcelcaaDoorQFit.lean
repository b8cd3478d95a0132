import Derived.Test.YtjbhadpdbcelcaaDoorQFitA
import Derived.Test.YtjbhadpdbcelcaaDoorQFitB
import Derived.Test.YtjbhadpdbcelcaaDoorQFitC
import Derived.Test.YtjbhadpdbcelcaaDoorQFitD
import Derived.Test.YtjbhadpdbcelcaaDoorQFitE
/-! Printed by gen_fit.py. -/
namespace Go.Proofs.YtjbhadpdbcelcaaDoor.Q
open Go.RowKit Go.Shelf
set_option maxRecDepth 20000
theorem l11Fits_any (x : Nd) (g m c : Nat) (kd : Nat → Int) (w : World) (hm : m ≤ 12001) (h8 : x.kind = 8 → 1 ≤ x.op ∧ x.op ≤ 12) (hg : g < w.heap.size) (hs : IntsAt w g m kd) :
    Calls Tryd.prog 12 #[ndV x, .slice (some ⟨g, 0, none⟩) m c] w fun e w' => Says e (KidsOk x m kd) ∧ Below w.heap.size w w' := by
  obtain ⟨k, op, ty, n, t, kids⟩ := x
  have h : FI k := by
    by_cases hk : k < 1 ∨ 24 < k
    · exact fit_E k hk
    · obtain rfl | rfl | rfl | rfl | rfl | rfl | rfl | rfl | rfl | rfl | rfl | rfl | rfl | rfl | rfl | rfl | rfl | rfl | rfl | rfl | rfl | rfl | rfl | rfl : k = 1 ∨ k = 2 ∨ k = 3 ∨ k = 4 ∨ k = 5 ∨ k = 6 ∨ k = 7 ∨ k = 8 ∨ k = 9 ∨ k = 10 ∨ k = 11 ∨ k = 12 ∨ k = 13 ∨ k = 14 ∨ k = 15 ∨ k = 16 ∨ k = 17 ∨ k = 18 ∨ k = 19 ∨ k = 20 ∨ k = 21 ∨ k = 22 ∨ k = 23 ∨ k = 24 := by omega
      · exact fit_1
      · exact fit_2
      · exact fit_3
      · exact fit_4
      · exact fit_5
      · exact fit_6
      · exact fit_7
      · exact fit_8
      · exact fit_9
      · exact fit_10
      · exact fit_11
      · exact fit_12
      · exact fit_13
      · exact fit_14
      · exact fit_15
      · exact fit_16
      · exact fit_17
      · exact fit_18
      · exact fit_19
      · exact fit_20
      · exact fit_21
      · exact fit_22
      · exact fit_23
      · exact fit_24
  exact h op ty n kids t g m c kd w hm h8 hg hs
end Go.Proofs.YtjbhadpdbcelcaaDoor.Q
