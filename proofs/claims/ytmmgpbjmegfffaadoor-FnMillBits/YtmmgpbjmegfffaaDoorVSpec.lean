import Derived.Test.YtmmgpbjmegfffaaDoorVErr
import Derived.Deep.RegionHeld3
/-! The model's helpers, and boxes. -/
namespace Go.Proofs.YtmmgpbjmegfffaaDoor.V
open Go.RowKit Go.Shelf
set_option maxRecDepth 20000
set_option maxHeartbeats 1000000 in
theorem l13Bool_any (b : Bool) (w : World) :
    Calls Tryd.prog 14 #[.bool b] w fun e w' => e = .returned (boolV b) ∧ Below w.heap.size w w' := by
  cases b
  all_goals go_enter Tryd.func14, Tryd.ntmps14
  all_goals go_wp2
  · exact bodyPost_ret (v := boolV false) (by simp [results, Tryd.results14, go_sem]) rfl ⟨rfl, alloc_below _ _⟩
  · exact bodyPost_ret (v := boolV true) (by simp [results, Tryd.results14, go_sem]) rfl ⟨rfl, alloc_below _ _⟩
set_option maxHeartbeats 1000000 in
theorem l13Num_any (t x : Int) (h3 : 3 ≤ t) (h4 : t ≤ 10) (h1 : 0 ≤ x) (h2 : x ≤ 18446744073709551615) (w : World) :
    Calls Tryd.prog 16 #[.int .i64 t, .int .u64 x] w fun e w' => e = .returned (val t (into t x) wNone) ∧ Below w.heap.size w w' := by
  have HC : Hid (∀ W, Calls Tryd.prog 27 #[.int .i64 t, .int .u64 x] W fun e w' => e = .returned (.int .i64 (into t x)) ∧ w' = W) := fun W => l13Into_any t x h3 h4 h1 h2 W
  generalize into t x = z at *
  go_enter Tryd.func16, Tryd.ntmps16
  go_wp2_with fail
  refine (HC.out _).mono ?_
  rintro e w' ⟨rfl, hw⟩
  have hw2 := hw.symm
  clear hw
  subst hw2
  go_wp2
  exact bodyPost_ret (v := val t z wNone) (by simp [results, Tryd.results16, go_sem]) rfl ⟨rfl, alloc_below _ _⟩
end Go.Proofs.YtmmgpbjmegfffaaDoor.V
