import Derived.Test.YtkhdjojhkifcnaaTgSpec
/-! FnExactYardTag, for every argument. -/
namespace Go.Proofs.Ytkhdjojhkifcnaa.Y
open Go.RowKit J
set_option maxRecDepth 20000
set_option maxHeartbeats 2000000 in
theorem law_tag (b k : ByteArray) (w : World) : Calls Try.prog 3 #[.string b, .string k] w fun e w' => e = .returned (.bool true) ∧ Below w.heap.size w w' := by
  go_enter Try.func3, Try.ntmps3
  by_cases hb : b.size ≤ 1048576
  · by_cases hk : k.size ≤ 1048576
    · go_wp2_with fail
      go_at_call 4
      refine (specTag_any b k _ hb).mono ?_
      rintro e w1 ⟨rfl, h1⟩
      go_wp2_with fail
      go_at_call 5
      refine (implTag_any b k _ hb).mono ?_
      rintro e w2 ⟨rfl, h2⟩
      go_wp2
      go_ret
      exact ⟨rfl, h1.trans (h2.mono h1.size)⟩
    · go_wp2
      go_ret
      exact ⟨rfl, Below.refl _ _⟩
  · go_wp2
    go_ret
    exact ⟨rfl, Below.refl _ _⟩
end Go.Proofs.Ytkhdjojhkifcnaa.Y
