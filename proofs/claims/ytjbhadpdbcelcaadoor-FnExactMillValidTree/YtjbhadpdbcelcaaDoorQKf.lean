import Derived.Test.YtjbhadpdbcelcaaDoorQKfA
import Derived.Test.YtjbhadpdbcelcaaDoorQKfB
import Derived.Test.YtjbhadpdbcelcaaDoorQKfC
import Derived.Test.YtjbhadpdbcelcaaDoorQKfD
/-! Printed by gen_fit.py. -/
namespace Go.Proofs.YtjbhadpdbcelcaaDoor.Q
open Go.RowKit Go.Shelf
set_option maxRecDepth 20000
theorem kidsFit_any (x : Nd) (ad : Option Addr) (m c : Nat) (st : Nat → Int) (sh : Nat → Nat) (w : World) (hm : m ≤ 12001) (h8 : x.kind = 8 → 1 ≤ x.op ∧ x.op ≤ 12) (hcm : m ≤ c) (hc : c ≤ maxLen) (hs : StA w ad m st sh) (he : EnvB w) :
    Calls Tryd.prog 16 #[ndV x, .slice ad m c] w fun e w' => Says e (KidsOk x m st) ∧ Below w.heap.size w w' := by
  obtain ⟨k, op, ty, n, t, kids⟩ := x
  have h : KF k := by
    by_cases hk : k < 1 ∨ 24 < k
    · exact kf_E k hk
    · obtain rfl | rfl | rfl | rfl | rfl | rfl | rfl | rfl | rfl | rfl | rfl | rfl | rfl | rfl | rfl | rfl | rfl | rfl | rfl | rfl | rfl | rfl | rfl | rfl : k = 1 ∨ k = 2 ∨ k = 3 ∨ k = 4 ∨ k = 5 ∨ k = 6 ∨ k = 7 ∨ k = 8 ∨ k = 9 ∨ k = 10 ∨ k = 11 ∨ k = 12 ∨ k = 13 ∨ k = 14 ∨ k = 15 ∨ k = 16 ∨ k = 17 ∨ k = 18 ∨ k = 19 ∨ k = 20 ∨ k = 21 ∨ k = 22 ∨ k = 23 ∨ k = 24 := by omega
      · exact kf_1
      · exact kf_2
      · exact kf_3
      · exact kf_4
      · exact kf_5
      · exact kf_6
      · exact kf_7
      · exact kf_8
      · exact kf_9
      · exact kf_10
      · exact kf_11
      · exact kf_12
      · exact kf_13
      · exact kf_14
      · exact kf_15
      · exact kf_16
      · exact kf_17
      · exact kf_18
      · exact kf_19
      · exact kf_20
      · exact kf_21
      · exact kf_22
      · exact kf_23
      · exact kf_24
  exact h op ty n kids t ad m c st sh w hm h8 hcm hc hs he
end Go.Proofs.YtjbhadpdbcelcaaDoor.Q
